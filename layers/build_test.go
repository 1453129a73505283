package layers_test

import (
	"fmt"
	"slices"
	"strings"
	"testing"

	"layers/api"
	"layers/layers"
	"layers/plain"
)

// hitsTold: a letter for each step: `+`, if it was found, else `-`.
func hitsTold(l []bool) string {
	s := ""
	for _, hit := range l {
		s += map[bool]string{true: "+", false: "-"}[hit]
	}
	return s
}

// checkBuild: the text is built, with these steps found.
func checkBuild(t *testing.T, s *layers.Store, text string, context []api.Entry, hits string) api.Built {
	t.Helper()
	b, err := s.Build(text, context)
	if err != nil || hitsTold(b.Hits) != hits {
		t.Errorf("P16: Build(%.300q): %v, %v; want %s", text, b, err, hits)
	}
	return b
}

func checkNoBuild(t *testing.T, s *layers.Store, text string, context []api.Entry, number api.Errno, place int) {
	t.Helper()
	if b, err := s.Build(text, context); !isNoBuilt(b) || !isAt(err, number, place) {
		t.Errorf("P16: Build(%.300q): %v, %v; want error %d at %d", text, b, err, number, place)
	}
}

func isNoBuilt(b api.Built) bool {
	return b.Manifest == "" && b.Layers == nil && b.Hits == nil
}

// checkBuilt: with any store the text is built as what it means.
func checkBuilt(t *testing.T, text string, context []api.Entry, want api.Image) {
	t.Helper()
	s := opened(t, api.MaxQuota)
	b, err := s.Build(text, context)
	if err != nil {
		t.Errorf("P16: Build(%q): %v", text, err)
	}
	checkLoad(t, s, b.Manifest, want)
}

// step: what one makes of a tree: the words that its key has, and what stands around it.
type step struct {
	before, now  []api.Entry
	work         string
	form, source string
}

func (s step) layer() api.Blob {
	return blob(modelPack(modelDiff(s.before, s.now)))
}

// entry: what the cache has of a step.
func (s step) entry() api.Blob {
	return s.leading(s.layer(), s.now)
}

// leading: what the cache would have, if the step led somewhere else, by another layer.
func (s step) leading(layer api.Blob, now []api.Entry) api.Blob {
	return called("c", keyText(s.before, s.work, s.form, s.source), layer.Name[2:]+"\n"+sumOf(now)+"\n")
}

// stepFiles: the files of steps, in the order in which they are kept.
func stepFiles(l ...step) []api.Blob {
	var all []api.Blob
	for _, s := range l {
		all = append(all, s.layer(), s.entry())
	}
	return all
}

// imageFiles: a config and a manifest.
func imageFiles(env []string, work string, l ...step) []api.Blob {
	var sums []string
	for _, s := range l {
		sums = append(sums, digest(s.layer().Data))
	}
	config := blob(configText(env, sums, work))
	return []api.Blob{config, blob(manifestText(config.Name[2:], sums))}
}

func keptAll(l []api.Blob) []api.Act {
	var acts []api.Act
	for _, f := range l {
		acts = append(acts, kept(f)...)
	}
	return acts
}

// wholeText: a build file with all kinds of instructions.
const wholeText = "FROM scratch AS one\nCOPY src /app\nENV A x\nFROM one AS no\nRM no\nFROM one AS two\nWORKDIR w/$A\nMKDIR a 700\nLINK $A:y \"l\"\nADD t /\nCOPY --from=one app .\nRM /app\n"

func wholeContext(t *testing.T) []api.Entry {
	return []api.Entry{dir("src", 0755), file("src/main", 0644, "hi"), file("t", 0600, packed(t, put(dir("p", 0711))))}
}

// wholeSteps: the steps of wholeText.
func wholeSteps(t *testing.T) []step {
	context := sumOf(wholeContext(t))
	app := []api.Entry{made("app"), file("app/main", 0644, "hi")}
	w := slices.Concat(app, []api.Entry{made("w"), made("w/x")})
	a := slices.Concat(w, []api.Entry{dir("w/x/a", 0700)})
	l := slices.Concat(a, []api.Entry{link("w/x/l", "x:y")})
	p := slices.Insert(slices.Clone(l), 2, dir("p", 0711))
	main := slices.Concat(p, []api.Entry{file("w/x/main", 0644, "hi")})
	return []step{
		{nil, app, "/", "COPY src /app", context},
		{app, w, "/", "WORKDIR w/x", "-"},
		{w, a, "/w/x", "MKDIR a 700", "-"},
		{a, l, "/w/x", "LINK x:y l", "-"},
		{l, p, "/w/x", "ADD t /", context},
		{p, main, "/w/x", "COPY app .", sumOf(app)},
		{main, main[2:], "/w/x", "RM /app", "-"},
	}
}

// wholeFiles: all that a store keeps of wholeText, in order.
func wholeFiles(t *testing.T) []api.Blob {
	l := wholeSteps(t)
	return append(stepFiles(l...), imageFiles([]string{"A=x"}, "/w/x", l...)...)
}

// What is kept, act by act; and nothing, when it is built again.
func TestP16Whole(t *testing.T) {
	s := opened(t, api.MaxQuota)
	context, files := wholeContext(t), wholeFiles(t)
	b := checkBuild(t, s, wholeText, context, "-------")
	checkActs(t, s, keptAll(files)...)
	checkFiles(t, s, files...)
	var sums []string
	for _, x := range wholeSteps(t) {
		sums = append(sums, digest(x.layer().Data))
	}
	if !slices.Equal(b.Layers, sums) || "b/"+b.Manifest != files[len(files)-1].Name {
		t.Errorf("P17: %v; want %q, %s", b, sums, files[len(files)-1].Name)
	}
	for range 2 {
		again := checkBuild(t, s, wholeText, context, "+++++++")
		if again.Manifest != b.Manifest || !slices.Equal(again.Layers, b.Layers) {
			t.Errorf("P19: built again: %v; want %v", again, b)
		}
		checkActs(t, s)
	}
}

// A step's key, where the document's edges are: values set in, the one form, no --from, the directory.
func TestP16Keys(t *testing.T) {
	context := wholeContext(t)
	all, app := sumOf(context), []api.Entry{made("app"), file("app/main", 0644, "hi")}
	for _, x := range []struct {
		text string
		step
	}{
		{begun("MKDIR a"), step{nil, []api.Entry{made("a")}, "/", "MKDIR a", "-"}},
		{begun("MKDIR \"a\" \"0\"\\00"), step{nil, []api.Entry{dir("a", 0)}, "/", "MKDIR a 000", "-"}},
		{begun("MKDIR ./a//"), step{nil, []api.Entry{made("a")}, "/", "MKDIR ./a//", "-"}},
		{begun("MKDIR \"\""), step{nil, nil, "/", `MKDIR ""`, "-"}},
		{begun("ENV A \"\"\nMKDIR $A"), step{nil, nil, "/", `MKDIR ""`, "-"}},
		{begun("ENV A a\nENV B $A/\nMKDIR \\\n  \"$B\"b$A"), step{nil, []api.Entry{made("a"), made("a/ba")}, "/", "MKDIR a/ba", "-"}},
		{begun("ENV A \"a\\$b\\\"c\\\\d'\"\nLINK $A\\#=: l"), step{nil, []api.Entry{link("l", `a$b"c\d'#=:`)}, "/", `LINK a\$b\"c\\d\'\#=: l`, "-"}},
		{begun("COPY . \"\""), step{nil, context, "/", `COPY . ""`, all}},
		{begun("COPY src app"), step{nil, app, "/", "COPY src app", all}},
		{begun("ENV A app\nENV B src\nCOPY $B $A"), step{nil, app, "/", "COPY src app", all}},
		{begun("ADD t ."), step{nil, []api.Entry{dir("p", 0711)}, "/", "ADD t .", all}},
		{"FROM scratch AS one\nCOPY src app\nFROM scratch\nCOPY \"--from=one\" app /q/", step{nil, []api.Entry{made("q"), file("q/main", 0644, "hi")}, "/", "COPY app /q/", sumOf(app)}},
		{"FROM scratch AS one\nCOPY src app\nFROM one AS two\nWORKDIR v\nRM /v\nFROM two\nCOPY --from=one app/main .", step{app, append(slices.Clone(app), file("v", 0644, "hi")), "/v", "COPY app/main .", sumOf(app)}},
		{begun("WORKDIR /v/u/"), step{nil, []api.Entry{made("v"), made("v/u")}, "/", "WORKDIR /v/u/", "-"}},
		{begun("WORKDIR /v/u\nWORKDIR .."), step{[]api.Entry{made("v"), made("v/u")}, []api.Entry{made("v"), made("v/u")}, "/v/u", "WORKDIR ..", "-"}},
		{begun("WORKDIR v\nRM ."), step{[]api.Entry{made("v")}, nil, "/v", "RM .", "-"}},
		{begun("MKDIR a\nMKDIR b\nMKDIR c\nRM b"), step{[]api.Entry{made("a"), made("b"), made("c")}, []api.Entry{made("a"), made("c")}, "/", "RM b", "-"}},
	} {
		s := opened(t, api.MaxQuota)
		if _, err := s.Build(x.text, context); err != nil {
			t.Errorf("P16: Build(%q): %v", x.text, err)
		}
		for _, f := range stepFiles(x.step) {
			if !slices.Contains(s.Files(), f) {
				t.Errorf("P16: Build(%q): no file %q of the step %q", x.text, f, x.form)
			}
		}
	}
}

// What a step hangs on is what counts, not how it is said or where it stands.
func TestP16SameKeys(t *testing.T) {
	context := []api.Entry{made("a"), file("a/f", 0644, "f")}
	s := opened(t, api.MaxQuota)
	checkBuild(t, s, begun("COPY . b\nMKDIR c\n"), context, "--")
	for text, hits := range map[string]string{
		begun("COPY \".\" \"b\"\nMKDIR \\c"):                                         "++",
		"FROM scratch AS x\nENV A b\nENV B .\nCOPY $B $A\nFROM x\nENV C c\nMKDIR $C": "++",
		begun("COPY . b"):   "+",
		begun("COPY . ./b"): "-",
		begun("COPY / b"):   "-",
		begun("MKDIR c"):    "-",
	} {
		x := opened(t, api.MaxQuota, s.Files()...)
		checkBuild(t, x, text, context, hits)
	}
	// From a stage that has the same tree; and from one that has another.
	checkBuild(t, s, "FROM scratch AS a\nCOPY . .\nFROM scratch\nCOPY --from=a . b\nMKDIR c", context, "-++")
	checkBuild(t, s, "FROM scratch AS a\nCOPY . .\nMKDIR d\nFROM scratch\nCOPY --from=a . b\nMKDIR c", context, "+---")
	// With another context, of which nothing else is taken.
	checkBuild(t, s, begun("COPY a b"), context, "-")
	checkBuild(t, s, begun("COPY a b"), append(slices.Clone(context), made("z")), "-")
	checkBuild(t, s, begun("COPY a b\nMKDIR c"), append(slices.Clone(context), made("z")), "+-")
	checkBuild(t, s, begun("COPY a b\nMKDIR c"), context, "++")
	// In another directory, where the same word is another path.
	checkBuild(t, s, begun("MKDIR d/e\nWORKDIR d\nMKDIR e"), nil, "---")
	checkBuild(t, s, begun("MKDIR d/e\nMKDIR d\nMKDIR e"), nil, "+--")
	// A step may be found that was done in the same build.
	checkBuild(t, s, begun("MKDIR x\nRM x\nMKDIR x\nRM x\nMKDIR x"), nil, "--+++")
}

// A layer that is there is not kept again: of steps that change nothing there is one for all.
func TestP16SameLayers(t *testing.T) {
	s := opened(t, api.MaxQuota)
	none := blob(noughts(1024))
	one := step{nil, nil, "/", "MKDIR .", "-"}
	two := step{nil, nil, "/", "MKDIR /", "-"}
	b := checkBuild(t, s, begun("MKDIR .\nMKDIR /\nMKDIR ."), nil, "--+")
	if !slices.Equal(b.Layers, []string{none.Name[2:], none.Name[2:], none.Name[2:]}) {
		t.Errorf("P17: layers %q", b.Layers)
	}
	checkActs(t, s, keptAll(append([]api.Blob{none, one.entry(), two.entry()}, imageFiles(nil, "/", one, two, one)...))...)
	checkLoad(t, s, b.Manifest, api.Image{Work: "/"})
}

// replaced: files of which one has other bytes.
func replaced(l []api.Blob, f api.Blob) []api.Blob {
	l = slices.DeleteFunc(slices.Clone(l), func(g api.Blob) bool { return g.Name == f.Name })
	return append(l, f)
}

// checkSpoiled: with that file in the place of what a store has of wholeText, the step of this number is not found: these files are kept anew, and all is as it was.
func checkSpoiled(t *testing.T, number int, spoiled api.Blob, anew ...api.Blob) {
	t.Helper()
	files := wholeFiles(t)
	s := opened(t, api.MaxQuota, replaced(files, spoiled)...)
	hits := strings.Repeat("+", number) + "-" + strings.Repeat("+", 6-number)
	b := checkBuild(t, s, wholeText, wholeContext(t), hits)
	if "b/"+b.Manifest != files[len(files)-1].Name {
		t.Errorf("P19: with %q: another manifest", spoiled)
	}
	checkActs(t, s, keptAll(anew)...)
	checkFiles(t, s, files...)
}

func TestP16EntryIsNone(t *testing.T) {
	for number, x := range wholeSteps(t) {
		e := x.entry()
		layer, sum := e.Data[:64], e.Data[65:129]
		other := digest("other")
		for _, data := range []string{
			"", "\n", "\n\n", layer, layer + "\n", layer + "\n" + sum, layer + sum + "\n", layer + "\n\n" + sum + "\n", e.Data + "\n", e.Data + e.Data, e.Data + "x", "\n" + e.Data, " " + e.Data,
			strings.ToUpper(e.Data), strings.ReplaceAll(e.Data, "\n", "\r\n"), strings.ReplaceAll(e.Data, "\n", " "), strings.ReplaceAll(e.Data, "\n", "\x00"),
			sum + "\n" + layer + "\n", other + "\n" + sum + "\n", layer + "\n" + other + "\n", layer + "\n" + layer + "\n", layer[1:] + "\n" + sum + "\n", layer + "\n" + sum[1:] + "\n", "0" + e.Data, "b/" + e.Data,
			layer + "\n" + sum + "\n" + sum + "\n", strings.Repeat("a", 1<<20), strings.Repeat("\n", 1<<16),
		} {
			checkSpoiled(t, number, api.Blob{Name: e.Name, Data: data}, e)
		}
	}
}

func TestP16EntryBytesTurned(t *testing.T) {
	x := wholeSteps(t)[2]
	e := x.entry()
	for i := range len(e.Data) {
		for _, by := range []byte{1, 0x20, 0x80, 3} {
			data := []byte(e.Data)
			data[i] ^= by
			checkSpoiled(t, 2, api.Blob{Name: e.Name, Data: string(data)}, e)
		}
	}
}

// A layer that Get does not know, since it is gone or not what it was, is put again.
func TestP16LayerIsNone(t *testing.T) {
	for number, x := range wholeSteps(t) {
		layer := x.layer()
		for _, data := range []string{"", layer.Data[1:], layer.Data + "\x00", strings.Repeat("\x00", 1024), "x"} {
			checkSpoiled(t, number, api.Blob{Name: layer.Name, Data: data}, layer, x.entry())
		}
		files := wholeFiles(t)
		s := opened(t, api.MaxQuota, files...)
		checkDrop(t, s, layer)
		checkBuild(t, s, wholeText, wholeContext(t), strings.Repeat("+", number)+"-"+strings.Repeat("+", 6-number))
		checkActs(t, s, keptAll([]api.Blob{layer, x.entry()})...)
		checkFiles(t, s, files...)
	}
}

// A blob that is no layer, or not of this tree, or leads to another one.
func TestP16LayerIsOther(t *testing.T) {
	x := wholeSteps(t)[2]
	var many []api.Change
	for _, e := range numbered(api.MaxEntries) {
		many = append(many, put(e))
	}
	for _, data := range []string{
		"", "junk", x.layer().Data + noughts(512), x.layer().Data[:512], noughts(512), noughts(1536),
		packed(t, gone("none")), packed(t, cleared("none")), packed(t, put(file("none/x", 0, ""))), packed(t, many...),
		packed(t), packed(t, put(dir("other", 0700))),
	} {
		f := blob(data)
		files := append(wholeFiles(t), f)
		s := opened(t, api.MaxQuota, replaced(files, x.leading(f, x.now))...)
		checkBuild(t, s, wholeText, wholeContext(t), "++-++++")
		checkActs(t, s, keptAll([]api.Blob{x.entry()})...)
		checkFiles(t, s, files...)
	}
}

// forged: a store whose cache leads somewhere else from one step, by this archive.
func forged(t *testing.T, x step, l ...api.Change) *layers.Store {
	t.Helper()
	now, err := layers.Patch(x.before, l)
	if err != nil {
		t.Fatal(err)
	}
	layer := blob(packed(t, l...))
	return opened(t, api.MaxQuota, layer, x.leading(layer, now))
}

// What is found is taken as it is, whatever doing the step would come to.
func TestP16FoundIsTaken(t *testing.T) {
	q := put(dir("q", 0700))
	long := strings.Repeat("/", api.MaxValue) + "a"
	for _, x := range []struct {
		line, form, source string
	}{
		{"MKDIR a", "MKDIR a", "-"}, {"RM x", "RM x", "-"}, {"RM .", "RM .", "-"}, {"MKDIR ..", "MKDIR ..", "-"}, {"LINK \"a b\" c", `LINK a\ b c`, "-"},
		{"COPY none x", "COPY none x", sumOf(nil)}, {"ADD none ../x", "ADD none ../x", sumOf(nil)}, {"MKDIR " + long, "MKDIR " + long, "-"},
	} {
		s := forged(t, step{nil, nil, "/", x.form, x.source}, q)
		b := checkBuild(t, s, begun(x.line), nil, "+")
		if !slices.Equal(b.Layers, []string{digest(packed(t, q))}) {
			t.Errorf("P16: %s: layers %q", x.line, b.Layers)
		}
		checkLoad(t, s, b.Manifest, api.Image{Work: "/", Tree: []api.Entry{dir("q", 0700)}})
	}
	// What comes behind it begins with what was found.
	s := forged(t, step{nil, nil, "/", "MKDIR a", "-"}, q)
	b := checkBuild(t, s, begun("MKDIR a\nMKDIR a"), nil, "+-")
	checkLoad(t, s, b.Manifest, api.Image{Work: "/", Tree: []api.Entry{made("a"), dir("q", 0700)}})
	s = forged(t, step{nil, nil, "/", "MKDIR a", "-"}, q)
	checkNoBuild(t, s, begun("MKDIR a\nRM a"), nil, api.ErrMissing, len(begun("MKDIR a\n")))
}

// A WORKDIR that is found is the directory, even if nothing is there; but its path must be one.
func TestP16FoundWorkdir(t *testing.T) {
	q := []api.Entry{made("q")}
	s := forged(t, step{nil, nil, "/", "WORKDIR a", "-"}, put(q[0]))
	b := checkBuild(t, s, begun("WORKDIR a"), nil, "+")
	checkLoad(t, s, b.Manifest, api.Image{Work: "/a", Tree: q})
	b = checkBuild(t, s, begun("WORKDIR a\nMKDIR b"), nil, "+-")
	checkLoad(t, s, b.Manifest, api.Image{Work: "/a", Tree: []api.Entry{made("a"), made("a/b"), q[0]}})
	for _, word := range []string{"..", ".wh.a", "a/../..", strings.Repeat("a/", api.MaxDeep) + "a"} {
		s := forged(t, step{nil, nil, "/", "WORKDIR " + word, "-"}, put(q[0]))
		checkNoBuild(t, s, begun("WORKDIR "+word), nil, api.ErrPath, len(begun("")))
	}
	// It is resolved where the stage is.
	deep := []api.Entry{made("a"), made("a/b")}
	s = opened(t, api.MaxQuota)
	for _, hits := range []string{"----", "++++"} {
		b = checkBuild(t, s, begun("WORKDIR a/b\nWORKDIR ..\nWORKDIR ./b/.\nWORKDIR /a"), nil, hits)
		checkLoad(t, s, b.Manifest, api.Image{Work: "/a", Tree: deep})
	}
	for _, hits := range []string{"++-", "+++"} {
		b = checkBuild(t, s, begun("WORKDIR a/b\nWORKDIR ..\nRM b"), nil, hits)
		checkLoad(t, s, b.Manifest, api.Image{Work: "/a", Tree: deep[:1]})
	}
}

// What was kept ahead of an instruction that can't be done stays, and nothing is kept behind it.
func TestP16CantBeDone(t *testing.T) {
	one := step{nil, []api.Entry{made("a")}, "/", "MKDIR a", "-"}
	two := step{one.now, []api.Entry{made("a"), made("b")}, "/", "MKDIR b", "-"}
	for _, x := range []struct {
		lines  string
		number api.Errno
		steps  []step
	}{
		{"¶RM x\nMKDIR a", api.ErrMissing, nil},
		{"MKDIR a\n¶RM x\nMKDIR b", api.ErrMissing, []step{one}},
		{"MKDIR a\nMKDIR b\n¶MKDIR ..", api.ErrPath, []step{one, two}},
		{"MKDIR a\nENV A b\nMKDIR $A\n¶ENV A " + strings.Repeat("v", 181), api.ErrBound, []step{one, two}},
		{"FROM scratch AS x\nMKDIR a\nFROM x\nMKDIR b\n¶COPY --from=x b c", api.ErrMissing, []step{one, two}},
		{"MKDIR a\nFROM scratch\n¶RM a", api.ErrMissing, nil},
		{"MKDIR a\n¶ADD . b", api.ErrKind, []step{one}},
		// What is wrong in the text, or with the context, is told ahead of all.
		{"MKDIR a\nMKDIR ¶\"b", api.ErrSyntax, nil},
		{"MKDIR a\nMKDIR ¶$A", api.ErrVar, nil},
	} {
		text, place := at(begun(x.lines))
		s := opened(t, api.MaxQuota)
		checkNoBuild(t, s, text, nil, x.number, place)
		checkActs(t, s, keptAll(stepFiles(x.steps...))...)
		checkNoBuild(t, s, text, nil, x.number, place)
		checkActs(t, s)
	}
	s := opened(t, 0)
	checkNoBuild(t, s, begun("MKDIR a"), []api.Entry{made("a"), {}}, api.ErrTree, 1)
	checkNoBuild(t, s, "", []api.Entry{{}}, api.ErrSyntax, 0)
	checkNoBuild(t, s, "FROM no", []api.Entry{{}}, api.ErrStage, 5)
	checkNoBuild(t, s, strings.Repeat(" ", api.MaxText+1), nil, api.ErrBound, api.MaxText)
	// An instruction that can't be done goes ahead of the room that it would not have.
	checkNoBuild(t, s, begun("RM a"), nil, api.ErrMissing, 13)
	checkNoBuild(t, s, begun("MKDIR a\nRM b"), nil, api.ErrFull, -1)
	checkActs(t, s)
}

// What is refused has no place; what was kept by then stays, and is found with more room.
func TestP16Full(t *testing.T) {
	context, files := wholeContext(t), wholeFiles(t)
	all := 0
	for _, f := range files {
		all += len(f.Data)
	}
	size := 0
	for i, f := range files {
		size += len(f.Data)
		for _, quota := range []int{size - len(f.Data), size - 1} {
			s := opened(t, quota)
			for range 2 {
				checkNoBuild(t, s, wholeText, context, api.ErrFull, -1)
				checkFiles(t, s, files[:i]...)
			}
			checkActs(t, s, keptAll(files[:i])...)
			s = opened(t, all, s.Files()...)
			found := min(i/2, 7)
			checkBuild(t, s, wholeText, context, strings.Repeat("+", found)+strings.Repeat("-", 7-found))
			checkFiles(t, s, files...)
		}
	}
	checkBuild(t, opened(t, all), wholeText, context, "-------")
	checkNoBuild(t, opened(t, all-1), wholeText, context, api.ErrFull, -1)
}

// The room is that of all other files: a spoiled one goes, and blobs that are there need none.
func TestP16Room(t *testing.T) {
	context, files := wholeContext(t), wholeFiles(t)
	all := 0
	for _, f := range files {
		all += len(f.Data)
	}
	e := wholeSteps(t)[4].entry()
	s := opened(t, all, replaced(files, api.Blob{Name: e.Name, Data: strings.Repeat("x", 100000)})...)
	checkBuild(t, s, wholeText, context, "++++-++")
	checkFiles(t, s, files...)
	s = opened(t, all+2, append(slices.Clone(files), blob("abc"))...)
	checkBuild(t, s, wholeText, context, "+++++++")
	checkDrop(t, s, e)
	checkNoBuild(t, s, wholeText, context, api.ErrFull, -1)
	checkDrop(t, s, blob("abc"))
	checkBuild(t, s, wholeText, context, "++++-++")
	// All is found in a store that has no room at all.
	s = opened(t, 0, files...)
	checkBuild(t, s, wholeText, context, "+++++++")
	checkActs(t, s)
	checkNoBuild(t, s, wholeText+"ENV B x", context, api.ErrFull, -1)
	checkNoBuild(t, s, wholeText+"MKDIR .", context, api.ErrFull, -1)
	checkActs(t, s)
}

// checkConfig: a text is built with this config and the manifest of it.
func checkConfig(t *testing.T, text, want string, sums ...string) {
	t.Helper()
	s := opened(t, api.MaxQuota)
	b, err := s.Build(text, nil)
	if err != nil || b.Manifest != digest(manifestText(digest(want), sums)) || !slices.Equal(b.Layers, sums) {
		t.Errorf("P17: Build(%q): %v, %v; want the config %s", text, b, err, want)
	}
	checkThere(t, s, want)
	checkThere(t, s, manifestText(digest(want), sums))
}

// checkThere: a blob is there, whatever acts there were.
func checkThere(t *testing.T, s *layers.Store, want string) {
	t.Helper()
	if got, err := s.Get(digest(want)); err != nil || got != want {
		t.Errorf("P17: no blob %s: %q, %v", want, got, err)
	}
}

func TestP17Config(t *testing.T) {
	a := digest(packed(t, put(made("a"))))
	b := digest(packed(t, put(made("b"))))
	none := digest(packed(t))
	checkConfig(t, "FROM scratch", `{"env":[],"layers":[],"work":"/"}`)
	checkConfig(t, begun("ENV A x"), `{"env":["A=x"],"layers":[],"work":"/"}`)
	checkConfig(t, begun("ENV A1 1\nENV A_ _\nENV A 0\nENV A1 2\nENV AB \"\""), `{"env":["A=0","A1=2","AB=","A_=_"],"layers":[],"work":"/"}`)
	checkConfig(t, begun(`ENV A "\"\\\$/"`), `{"env":["A=\"\\$/"],"layers":[],"work":"/"}`)
	checkConfig(t, begun(`ENV A "{}[], :"`+"\nENV B ="), `{"env":["A={}[], :","B=="],"layers":[],"work":"/"}`)
	checkConfig(t, begun("MKDIR a"), `{"env":[],"layers":["`+a+`"],"work":"/"}`, a)
	checkConfig(t, begun("WORKDIR a"), `{"env":[],"layers":["`+a+`"],"work":"/a"}`, a)
	checkConfig(t, begun("WORKDIR a\nMKDIR ."), `{"env":[],"layers":["`+a+`","`+none+`"],"work":"/a"}`, a, none)
	// Those of the stage that it begins with ahead of its own; none of a stage that is copied from.
	checkConfig(t, "FROM scratch AS one\nMKDIR a\nENV A x\nFROM one AS two\nMKDIR b\nFROM two\nMKDIR .", `{"env":["A=x"],"layers":["`+a+`","`+b+`","`+none+`"],"work":"/"}`, a, b, none)
	checkConfig(t, "FROM scratch AS one\nMKDIR a\nFROM one AS two\nMKDIR x\nFROM one AS three\nMKDIR b", `{"env":[],"layers":["`+a+`","`+b+`"],"work":"/"}`, a, b)
	checkConfig(t, "FROM scratch AS one\nMKDIR x/a\nENV A x\nWORKDIR y\nFROM scratch\nCOPY --from=one x .", `{"env":[],"layers":["`+a+`"],"work":"/"}`, a)
}

// Of each step that was come to, in order: those of stages that are copied from, too, but not of those that are not needed.
func TestP17Hits(t *testing.T) {
	s := opened(t, api.MaxQuota)
	checkBuild(t, s, begun("MKDIR b\nFROM scratch\nENV A x"), nil, "")
	checkBuild(t, s, begun("MKDIR b"), nil, "-")
	text := "FROM scratch AS one\nMKDIR a\nENV A x\nFROM scratch AS no\nRM x\nFROM scratch AS two\nMKDIR b\nFROM one\nCOPY --from=two . .\nMKDIR c"
	if b := checkBuild(t, s, text, nil, "-+--"); len(b.Layers) != 3 {
		t.Errorf("P17: %v; want 3 layers", b)
	}
	if b := checkBuild(t, s, text, nil, "++++"); len(b.Layers) != 3 {
		t.Errorf("P17: %v; want 3 layers", b)
	}
	var lines string
	for i := range api.MaxSteps - 1 {
		lines += fmt.Sprintf("MKDIR d%d\n", i)
	}
	if b := checkBuild(t, s, begun(lines), nil, strings.Repeat("-", api.MaxSteps-1)); len(b.Layers) != api.MaxSteps-1 {
		t.Errorf("P17: %v; want %d layers", b, api.MaxSteps-1)
	}
}

func TestPlainBuild(t *testing.T) {
	s := opened(t, api.MaxQuota)
	b, e, at := plain.Build(s, begun("WORKDIR a\nENV A x"), nil)
	if len(b.Manifest) != 64 || len(b.Layers) != 1 || !slices.Equal(b.Hits, []bool{false}) || e != api.OK || at != -1 {
		t.Errorf("P16: %v, %d, %d", b, e, at)
	}
	if i, e := plain.Load(s, b.Manifest); fmt.Sprint(i) != "{[A=x] /a [{a 1 493 }]}" || e != api.OK {
		t.Errorf("P18: %v, %d", i, e)
	}
	if i, e := plain.Load(s, digest("none")); !isNoImage(i) || e != api.ErrNone {
		t.Errorf("P18: %v, %d", i, e)
	}
	if b, e, at := plain.Build(s, begun("RM a"), nil); !isNoBuilt(b) || e != api.ErrMissing || at != 13 {
		t.Errorf("P16: %v, %d, %d", b, e, at)
	}
}
