package layers_test

import (
	"fmt"
	"slices"
	"strings"
	"testing"

	"layers/api"
	"layers/layers"
)

func checkLoad(t *testing.T, s *layers.Store, sum string, want api.Image) {
	t.Helper()
	got, err := s.Load(sum)
	if err != nil || !slices.Equal(got.Env, want.Env) || got.Work != want.Work || !slices.Equal(got.Tree, want.Tree) {
		t.Errorf("P18: Load: %v, %v; want %v", got, err, want)
	}
}

func checkNoLoad(t *testing.T, s *layers.Store, sum string, number api.Errno) {
	t.Helper()
	if got, err := s.Load(sum); !isNoImage(got) || !isAt(err, number, -1) {
		t.Errorf("P18: Load(%.80q): %v, %v; want error %d", sum, got, err, number)
	}
}

// filed: a store with these blobs.
func filed(t *testing.T, texts ...string) *layers.Store {
	t.Helper()
	var l []api.Blob
	for _, s := range texts {
		if !slices.Contains(l, blob(s)) {
			l = append(l, blob(s))
		}
	}
	return opened(t, api.MaxQuota, l...)
}

// sumsOf: the digests of texts.
func sumsOf(texts ...string) []string {
	var l []string
	for _, s := range texts {
		l = append(l, digest(s))
	}
	return l
}

// imaged: a store with a config, its manifest and its layers; and the digest of the manifest.
func imaged(t *testing.T, config string, layers ...string) (*layers.Store, string) {
	t.Helper()
	manifest := manifestText(digest(config), sumsOf(layers...))
	return filed(t, append([]string{config, manifest}, layers...)...), digest(manifest)
}

func TestP18Images(t *testing.T) {
	a, b, c := packed(t, put(dir("a", 0700)), put(file("a/f", 0640, "f"))), packed(t, put(link("b", "a"))), packed(t, gone("a"), put(dir("d", 0)))
	for _, x := range []struct {
		layers []string
		want   []api.Entry
	}{
		{nil, nil},
		{[]string{a}, []api.Entry{dir("a", 0700), file("a/f", 0640, "f")}},
		{[]string{a, b}, []api.Entry{dir("a", 0700), file("a/f", 0640, "f"), link("b", "a")}},
		{[]string{a, b, c}, []api.Entry{link("b", "a"), dir("d", 0)}},
		{[]string{a, c, a, c, b, a}, []api.Entry{dir("a", 0700), file("a/f", 0640, "f"), link("b", "a"), dir("d", 0)}},
		{[]string{b, b, packed(t), b}, []api.Entry{link("b", "a")}},
	} {
		for env, work := range map[string]string{"": "/", "A=": "/a", "A=x,B==\"\\": "/no/such/directory"} {
			var l []string
			if env != "" {
				l = strings.Split(env, ",")
			}
			s, sum := imaged(t, configText(l, sumsOf(x.layers...), work), x.layers...)
			for range 2 {
				checkLoad(t, s, sum, api.Image{Env: l, Work: work, Tree: x.want})
				checkActs(t, s)
			}
		}
	}
}

// There is no bound on layers: only on the tree that they make.
func TestP18ManyLayers(t *testing.T) {
	var l []string
	for i := range 600 {
		l = append(l, packed(t, put(file(fmt.Sprintf("n%d", i%api.MaxEntries), 0, fmt.Sprint(i)))))
	}
	s, sum := imaged(t, configText(nil, sumsOf(l...), "/"), l...)
	if got, err := s.Load(sum); err != nil || len(got.Tree) != api.MaxEntries || got.Tree[0] != file("n0", 0, "560") {
		t.Errorf("P18: of %d layers: %v, %v", len(l), got, err)
	}
	l = append(l, packed(t, put(dir("z", 0))))
	s, sum = imaged(t, configText(nil, sumsOf(l...), "/"), l...)
	checkNoLoad(t, s, sum, api.ErrImage)
}

func TestP18NoManifest(t *testing.T) {
	layer := packed(t)
	config := configText(nil, sumsOf(layer), "/")
	c, l := digest(config), digest(layer)
	good := manifestText(c, []string{l})
	if good != `{"config":"`+c+`","layers":["`+l+`"]}` {
		t.Fatal(good)
	}
	checkLoad(t, filed(t, good, config, layer), digest(good), api.Image{Work: "/"})
	for _, text := range []string{
		"", "{}", "null", "[]", `""`, "{", good[1:], good[:len(good)-1], good + "\n", " " + good, good + " ", good + good, good + "}", "\xef\xbb\xbf" + good,
		`{"config":"` + c + `"}`, `{"layers":["` + l + `"]}`, `{"layers":["` + l + `"],"config":"` + c + `"}`, `{"config":"` + c + `","layers":null}`, `{"config":"` + c + `","layers":"` + l + `"}`, `{"config":["` + c + `"],"layers":["` + l + `"]}`,
		`{"config": "` + c + `","layers":["` + l + `"]}`, `{"config":"` + c + `", "layers":["` + l + `"]}`, `{"config":"` + c + `","layers":["` + l + `",]}`, `{"config":"` + c + `","layers":[,"` + l + `"]}`, `{"config":"` + c + `","layers":["` + l + `" ]}`, `{"config":"` + c + `","layers":["` + l + `""` + l + `"]}`, `{"config":"` + c + `","layers":["` + l + `","` + l + `"}`, `{"config":"` + c + `","layers":[` + l + `]}`, `{"config":` + c + `,"layers":["` + l + `"]}`,
		`{"Config":"` + c + `","layers":["` + l + `"]}`, `{"config":"` + c + `","layers":["` + l + `"],"x":""}`, `{"config":"` + c + `","layers":["` + l + `"],"layers":["` + l + `"]}`, `{'config':'` + c + `','layers':['` + l + `']}`,
		manifestText("", []string{l}), manifestText(c[1:], []string{l}), manifestText(c+"0", []string{l}), manifestText(strings.ToUpper(c), []string{l}), manifestText("b/"+c, []string{l}), manifestText(c[:63]+"g", []string{l}),
		manifestText(c, []string{""}), manifestText(c, []string{l[1:]}), manifestText(c, []string{l, l + "0"}), manifestText(c, []string{strings.ToUpper(l)}), manifestText(c, []string{l, "x"}), manifestText(c, []string{l[:63] + "\\"}),
		`{"config":"` + c + `","layers":["\` + l + `"]}`, `{"config":"\u0030` + c[1:] + `","layers":["` + l + `"]}`, good[:20], good[:90], `{"config":"`, `{"config":"\`, config, layer, strings.Repeat("[", 1<<16), `{"config":"` + strings.Repeat(`\\`, 1<<16),
	} {
		if text != good {
			checkNoLoad(t, filed(t, text, config, layer), digest(text), api.ErrImage)
		}
	}
}

// checkNoConfig: what a manifest leads to is no config of these layers.
func checkNoConfig(t *testing.T, config string, layers ...string) {
	t.Helper()
	s, sum := imaged(t, config, layers...)
	checkNoLoad(t, s, sum, api.ErrImage)
}

func TestP18NoConfig(t *testing.T) {
	layer := packed(t)
	l := quotedText(digest(layer))
	good := configText([]string{"A=x"}, sumsOf(layer), "/w")
	if good != `{"env":["A=x"],"layers":[`+l+`],"work":"/w"}` {
		t.Fatal(good)
	}
	s, sum := imaged(t, good, layer)
	checkLoad(t, s, sum, api.Image{Env: []string{"A=x"}, Work: "/w"})
	for _, text := range []string{
		"", "{}", "null", good[1:], good[:len(good)-1], good + "\n", good + " ", " " + good, good + good, good + "}",
		`{"layers":[` + l + `],"work":"/w"}`, `{"env":["A=x"],"work":"/w"}`, `{"env":["A=x"],"layers":[` + l + `]}`, `{"layers":[` + l + `],"env":["A=x"],"work":"/w"}`, `{"env":["A=x"],"layers":[` + l + `],"work":"/w","x":"y"}`,
		`{"env":null,"layers":[` + l + `],"work":"/w"}`, `{"env":"A=x","layers":[` + l + `],"work":"/w"}`, `{"env":["A=x"],"layers":[` + l + `],"work":["/w"]}`, `{"env":["A=x"],"layers":[` + l + `],"work":null}`, `{"env":{"A":"x"},"layers":[` + l + `],"work":"/w"}`, `{"env":[["A=x"]],"layers":[` + l + `],"work":"/w"}`,
		`{"env":["A=x",],"layers":[` + l + `],"work":"/w"}`, `{"env":[,"A=x"],"layers":[` + l + `],"work":"/w"}`, `{"env":["A=x" "B=x"],"layers":[` + l + `],"work":"/w"}`, `{"env":["A=x", "B=x"],"layers":[` + l + `],"work":"/w"}`, `{"env":["A=x"],,"layers":[` + l + `],"work":"/w"}`, `{"env":["A=x"]"layers":[` + l + `],"work":"/w"}`,
		`{"env":["A=\n"],"layers":[` + l + `],"work":"/w"}`, `{"env":["A=\x"],"layers":[` + l + `],"work":"/w"}`, `{"env":["A=\/"],"layers":[` + l + `],"work":"/w"}`, `{"env":["A=\u0041"],"layers":[` + l + `],"work":"/w"}`, `{"env":["A="x"],"layers":[` + l + `],"work":"/w"}`, `{"env":["A=\"],"layers":[` + l + `],"work":"/w"}`, `{"env":["\A=x"],"layers":[` + l + `],"work":"/w"}`, `{"env":["A=x`, `{"env":["A=x\`, `{"env":["A=x\\`, `{"env":["A=x"`, `{"env":[`, `{"env":["A=x"],"layers":[` + l + `],"work":"\/w"}`, `{"env":["A=x"],"layers":[` + l + `],"work":"/w`,
	} {
		checkNoConfig(t, text, layer)
	}
}

// With the same layers, in the same order: the manifest's.
func TestP18OtherLayers(t *testing.T) {
	a, b := packed(t, put(dir("a", 0))), packed(t, put(dir("b", 0)))
	s, sum := imaged(t, configText(nil, sumsOf(a, b), "/"), a, b)
	checkLoad(t, s, sum, api.Image{Work: "/", Tree: []api.Entry{dir("a", 0), dir("b", 0)}})
	for _, l := range [][]string{nil, {a}, {b}, {b, a}, {a, a}, {b, b}, {a, b, a}, {a, b, b}, {"none", b}} {
		checkNoConfig(t, configText(nil, sumsOf(l...), "/"), a, b)
	}
	checkNoConfig(t, configText(nil, sumsOf(a), "/"))
	checkNoConfig(t, configText(nil, []string{"x", digest(b)}, "/"), a, b)
}

func TestP18Variables(t *testing.T) {
	v := strings.Repeat("v", api.MaxValue)
	all := ""
	for c := byte(32); c <= 126; c++ {
		all += string(c)
	}
	for _, env := range [][]string{
		{"A="}, {"A=" + v}, {"A=" + v[1:] + `"`, "B=" + strings.Repeat(`\`, api.MaxValue)}, {"A=" + all}, {"A==", "B=A=B"}, {"ABCDEFGHIJ=x"}, {"Z_______9_=x"}, {"A=1", "A0=2", "A00=3", "AA=4", "A_=5", "B=6"}, {"Z=x", "Z_=y"},
	} {
		s, sum := imaged(t, configText(env, nil, "/"))
		checkLoad(t, s, sum, api.Image{Env: env, Work: "/"})
	}
	for _, env := range [][]string{
		{""}, {"="}, {"=x"}, {"A"}, {"x"}, {"a=x"}, {"_A=x"}, {"9=x"}, {"A-=x"}, {"Aa=x"}, {" A=x"}, {"A =x"}, {"ABCDEFGHIJK=x"}, {`A"=x`}, {`A\=x`},
		{"A=" + v + "v"}, {"A=" + v + `"`}, {"A=" + v[1:] + "é"}, {"A=\x1f"}, {"A=\x7f"}, {"A=\x00"}, {"A=\n"}, {"A=\t"}, {"A=\x80"}, {"A=\xff"}, {"A=é"},
		{"A=x", "A=x"}, {"A=x", "A=y"}, {"B=x", "A=x"}, {"A=x", "C=x", "B=x"}, {"A0=x", "A=y"}, {"A=x", "B"}, {"A=x", ""}, {"A_=x", "AZ=y"}, {"A=x", "B=y", "A=x"},
	} {
		checkNoConfig(t, configText(env, nil, "/"))
	}
}

func TestP18Work(t *testing.T) {
	n := strings.Repeat("n", api.MaxName)
	long := "/" + n + "/" + n + "/" + strings.Repeat("n", api.MaxPath-2*api.MaxName-2)
	deep := strings.Repeat("/a", api.MaxDeep)
	for _, work := range []string{"/", "/a", "/a/b", "/.a", "/...", "/.wh", "/a.wh.b", "/A_-.9", long, deep, "/" + n} {
		s, sum := imaged(t, configText(nil, nil, work))
		checkLoad(t, s, sum, api.Image{Work: work})
	}
	for _, work := range []string{"", "a", "a/", "//", "///", "/a/", "//a", "/a//b", "/.", "/..", "/a/.", "/a/..", "/../a", "/.wh.a", "/a b", "/a:", "/a\\", "/a\"", "/é", "/\x00", "./a", " /", "/ ", long + "n", deep + "/a", "/" + n + "n", "/" + strings.Repeat("n/", 1<<16)} {
		checkNoConfig(t, configText(nil, nil, work))
	}
}

// checkTurnedImages: a manifest or a config with one byte turned, in all ways, is told as the second reading tells it; and how many were images still.
func checkTurnedImages(t *testing.T, text string, store func(turned string) (*layers.Store, string)) int {
	t.Helper()
	images := 0
	for i := range len(text) {
		for c := range 256 {
			turned := text[:i] + string([]byte{byte(c)}) + text[i+1:]
			s, sum := store(turned)
			want := imageTold((&modelStore{files: s.Files()}).load(sum))
			if got := imageTold(s.Load(sum)); got != want {
				t.Errorf("P18: %q: %s; want %s", turned, got, want)
			}
			if strings.HasSuffix(want, "<nil>") && turned != text {
				images++
			}
		}
	}
	return images
}

func TestP18BytesTurned(t *testing.T) {
	layer := packed(t, put(dir("a", 0)))
	config := configText([]string{"A=x", `B="\`}, sumsOf(layer), "/w")
	manifest := manifestText(digest(config), sumsOf(layer))
	// A manifest with a byte turned names nothing that is there.
	if n := checkTurnedImages(t, manifest, func(turned string) (*layers.Store, string) {
		return filed(t, turned, config, layer), digest(turned)
	}); n != 0 {
		t.Errorf("P18: %d manifests with a byte turned are images", n)
	}
	// A config may be one still: with another value, name or directory. Of these there are no more than the bytes that may stand there.
	if n := checkTurnedImages(t, config, func(turned string) (*layers.Store, string) { return imaged(t, turned, layer) }); n < 100 || n > 300 {
		t.Errorf("P18: %d configs with a byte turned are images", n)
	}
}

func TestP18ErrorsInOrder(t *testing.T) {
	layer, none := packed(t, put(dir("a", 0))), digest("none")
	bad, cant := "no archive", packed(t, gone("b"))
	config := func(l ...string) string { return configText(nil, l, "/") }
	for _, x := range []struct {
		config, manifest string
		want             api.Errno
	}{
		// The manifest ahead of the config, and that ahead of the layers.
		{"", manifestText(none, []string{"x"}), api.ErrImage},
		{"", manifestText(none, []string{none}), api.ErrNone},
		{"", manifestText(digest(bad), []string{none}), api.ErrImage},
		{"x", manifestText(digest("x"), []string{none}), api.ErrImage},
		{config(none), manifestText(digest(config(none)), []string{none}), api.ErrNone},
		{config(none), manifestText(digest(config(none)), []string{digest(bad)}), api.ErrImage},
		// Layer by layer.
		{config(none, digest(bad)), manifestText(digest(config(none, digest(bad))), []string{none, digest(bad)}), api.ErrNone},
		{config(digest(bad), none), manifestText(digest(config(digest(bad), none)), []string{digest(bad), none}), api.ErrImage},
		{config(digest(cant), none), manifestText(digest(config(digest(cant), none)), []string{digest(cant), none}), api.ErrImage},
		{config(digest(layer), none), manifestText(digest(config(digest(layer), none)), []string{digest(layer), none}), api.ErrNone},
		{config(digest(layer), digest(cant)), manifestText(digest(config(digest(layer), digest(cant))), []string{digest(layer), digest(cant)}), api.ErrImage},
	} {
		checkNoLoad(t, filed(t, layer, bad, cant, x.config, x.manifest), digest(x.manifest), x.want)
	}
}

// Files that are there with other bytes are as none, be it a manifest, a config or a layer.
func TestP18SpoiledFiles(t *testing.T) {
	s := opened(t, api.MaxQuota)
	b := checkBuild(t, s, wholeText, wholeContext(t), "-------")
	want, err := s.Load(b.Manifest)
	if err != nil {
		t.Fatal(err)
	}
	files := s.Files()
	for i, f := range files {
		for _, data := range []string{"", f.Data + "\n", f.Data[1:], strings.ToUpper(f.Data) + "x"} {
			spoiled := slices.Clone(files)
			spoiled[i].Data = data
			x := opened(t, 0, spoiled...)
			if f.Name[0] == 'c' {
				checkLoad(t, x, b.Manifest, want)
			} else {
				checkNoLoad(t, x, b.Manifest, api.ErrNone)
			}
		}
		x := opened(t, 0, files...)
		checkDrop(t, x, f)
		if f.Name[0] == 'c' {
			checkLoad(t, x, b.Manifest, want)
		} else {
			checkNoLoad(t, x, b.Manifest, api.ErrNone)
		}
	}
}

// Layers that are no archives, or can't be done on what there is so far.
func TestP18BadLayers(t *testing.T) {
	a := packed(t, put(dir("a", 0)), put(file("a/f", 0, "f")))
	var many []api.Change
	for _, e := range numbered(api.MaxEntries) {
		many = append(many, put(e))
	}
	for _, bad := range []string{
		"", "x", noughts(512), noughts(1023), noughts(1025), a + "\x00", a[:len(a)-1], a + a, a[1:],
		packed(t, gone("b")), packed(t, gone("a/g")), packed(t, cleared("a/f")), packed(t, cleared("b")), packed(t, put(file("a/f/g", 0, ""))), packed(t, put(dir("b/c", 0))), packed(t, many...), packed(t, many[1:]...),
	} {
		s, sum := imaged(t, configText(nil, sumsOf(a, bad), "/"), a, bad)
		checkNoLoad(t, s, sum, api.ErrImage)
	}
	s, sum := imaged(t, configText(nil, sumsOf(a, packed(t, many[2:]...)), "/"), a, packed(t, many[2:]...))
	if got, err := s.Load(sum); err != nil || len(got.Tree) != api.MaxEntries {
		t.Errorf("P18: of a full tree: %v, %v", got, err)
	}
}

func TestP18NoSuchDigest(t *testing.T) {
	s := opened(t, api.MaxQuota)
	b := checkBuild(t, s, wholeText, wholeContext(t), "-------")
	checkNoLoad(t, s, b.Layers[0], api.ErrImage)
	for _, f := range s.Files() {
		if f.Name[0] == 'b' && f.Name[2:] != b.Manifest {
			checkNoLoad(t, s, f.Name[2:], api.ErrImage)
		} else if f.Name[0] == 'c' {
			checkNoLoad(t, s, f.Name[2:], api.ErrNone)
		}
		checkNoLoad(t, s, f.Name, api.ErrNone)
	}
	for _, sum := range []string{"", "x", digest("x"), b.Manifest[1:], b.Manifest + "0", strings.ToUpper(b.Manifest), "/" + b.Manifest, "\x00", strings.Repeat("a", 1<<20)} {
		checkNoLoad(t, s, sum, api.ErrNone)
	}
}
