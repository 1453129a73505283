package layers_test

import (
	"fmt"
	"math/rand"
	"slices"
	"strings"
	"testing"

	"layers/api"
	"layers/layers"
)

// lived: a store in which this and that was built, dropped and spoiled.
func lived(t *testing.T, r *rand.Rand, text string, context []api.Entry) *layers.Store {
	t.Helper()
	s := opened(t, api.MaxQuota, someFiles(r)...)
	other, with := someMade(r)
	for range r.Intn(4) {
		switch r.Intn(3) {
		case 0:
			s.Build(other, with)
		case 1:
			s.Build(text, context)
		case 2:
			s.Build(other, context)
		}
		// Only what is there and not right: what leads somewhere else is no store that builds have made.
		l := s.Files()
		if len(l) > 0 && r.Intn(2) == 0 {
			i := r.Intn(len(l))
			l[i].Data = l[i].Data[:r.Intn(len(l[i].Data)+1)]
		}
		s = opened(t, api.MaxQuota, l...)
	}
	return s
}

// checkSame: what a store builds is what the text means, it is the same as another store builds, and built again it is found, and nothing is written.
func checkSame(t *testing.T, s *layers.Store, text string, context []api.Entry, manifest string, want api.Image) {
	t.Helper()
	b, err := s.Build(text, context)
	if err != nil || b.Manifest != manifest {
		t.Fatalf("P19: Build(%q) with %v: %v, %v; want %s", text, context, b, err, manifest)
	}
	checkLoad(t, s, b.Manifest, want)
	s.Acts()
	again, err := s.Build(text, context)
	if err != nil || again.Manifest != manifest || !slices.Equal(again.Layers, b.Layers) || strings.Contains(hitsTold(again.Hits), "-") || len(again.Hits) != len(b.Hits) {
		t.Fatalf("P19: Build(%q) with %v, again: %v, %v; want %v", text, context, again, err, b)
	}
	checkActs(t, s)
}

func TestP19ManyStores(t *testing.T) {
	r := rand.New(rand.NewSource(19))
	done := 0
	for range 400 {
		text, context := someMade(r)
		want, err := layers.Make(text, context)
		if err != nil {
			number, place := api.Tell(err)
			checkNoBuild(t, opened(t, api.MaxQuota), text, context, number, place)
			checkNoBuild(t, lived(t, r, text, context), text, context, number, place)
			continue
		}
		done++
		s := opened(t, api.MaxQuota)
		b, err := s.Build(text, context)
		if err != nil {
			t.Fatal(text, err)
		}
		checkSame(t, s, text, context, b.Manifest, want)
		checkSame(t, lived(t, r, text, context), text, context, b.Manifest, want)
	}
	if done < 200 {
		t.Errorf("only %d were built", done)
	}
}

// lefts: all that may be left of a disk, each once.
func lefts(d *disk) [][]api.Blob {
	var all [][]api.Blob
	for _, l := range d.left() {
		if !slices.ContainsFunc(all, func(x []api.Blob) bool { return slices.Equal(x, l) }) {
			all = append(all, l)
		}
	}
	return all
}

// checkStops: whenever the machine stops in a build, all that was there is there, what was an image is one, and built again it comes to the same. It tells how often the machine stopped.
func checkStops(t *testing.T, files []api.Blob, old, text string, context []api.Entry) int {
	t.Helper()
	want, err := layers.Make(text, context)
	if err != nil {
		return 0
	}
	s := opened(t, api.MaxQuota, files...)
	wantOld, oldErr := s.Load(old)
	b, err := s.Build(text, context)
	if err != nil {
		t.Fatal(err)
	}
	e := ever{}
	e.add(files)
	e.add(s.Files())
	d := newDisk(files)
	stops := 0
	for _, a := range append([]api.Act{{What: api.SyncDir}}, s.Acts()...) {
		d.do(t, a)
		checkLeft(t, d, files, "", e)
		for _, l := range lefts(d) {
			x := opened(t, api.MaxQuota, l...)
			if oldErr == nil {
				checkLoad(t, x, old, wantOld)
			}
			checkSame(t, x, text, context, b.Manifest, want)
			stops++
		}
	}
	if !slices.Equal(d.files(), s.Files()) {
		t.Fatalf("P13: by its acts a store has other files than it tells")
	}
	return stops
}

func TestP19MachineStops(t *testing.T) {
	if n := checkStops(t, nil, "", wholeText, wholeContext(t)); n < 64 {
		t.Errorf("the machine stopped %d times", n)
	}
	// With spoiled files of the same build: the old bytes are there, or the new ones.
	for i, f := range wholeFiles(t) {
		checkStops(t, replaced(wholeFiles(t), api.Blob{Name: f.Name, Data: fmt.Sprint(i)}), "", wholeText, wholeContext(t))
	}
	r := rand.New(rand.NewSource(20))
	for range 12 {
		s := opened(t, api.MaxQuota)
		b, _ := s.Build(someMade(r))
		text, context := someMade(r)
		checkStops(t, s.Files(), b.Manifest, text, context)
	}
}

// A store with just the room that a build needs, and one byte less: the same manifest, or none.
func TestP19Room(t *testing.T) {
	r := rand.New(rand.NewSource(21))
	for range 60 {
		text, context := someMade(r)
		want, err := layers.Make(text, context)
		if err != nil {
			continue
		}
		s := opened(t, api.MaxQuota)
		b, err := s.Build(text, context)
		if err != nil {
			t.Fatal(err)
		}
		size := 0
		for _, f := range s.Files() {
			size += len(f.Data)
		}
		checkSame(t, opened(t, size), text, context, b.Manifest, want)
		checkNoBuild(t, opened(t, size-1), text, context, api.ErrFull, -1)
	}
}

func TestP1BuildsNoPanic(t *testing.T) {
	texts := []string{"", "FROM", "FROM scratch", wholeText, begun("COPY . ."), begun("RM a"), begun("ENV A $A"), begun("ADD t ."), "\x00", strings.Repeat("a", 1<<16), strings.Repeat("FROM scratch\n", 6)}
	contexts := [][]api.Entry{nil, {}, {{}}, wholeContext(t), numbered(api.MaxEntries), numbered(api.MaxEntries + 1), {file("t", 0, "x")}, {{Path: "a", Kind: -1, Mode: -1}}, make([]api.Entry, 1<<12)}
	for _, quota := range []int{0, 1, 1024, 5000, api.MaxQuota} {
		for _, text := range texts {
			for _, context := range contexts {
				s := opened(t, quota, called("c", "a", "b"), blob("{}"))
				b, err := s.Build(text, context)
				if (b.Manifest == "") != (err != nil) || err != nil && !isNoBuilt(b) {
					t.Errorf("P1: Build(%.40q): %v beside %v", text, b, err)
				}
				for _, sum := range []string{"", b.Manifest, text, digest("{}"), "b/" + b.Manifest} {
					if i, err := s.Load(sum); err != nil && !isNoImage(i) || err == nil && i.Work == "" {
						t.Errorf("P1: Load(%.40q): %v beside %v", sum, i, err)
					}
				}
			}
		}
	}
}

// What is handed in stays as it is, behind its end too, and nothing of it is kept.
func TestP2BuildsKeepNothing(t *testing.T) {
	room := append(wholeContext(t), file("zz", 0, "spare"), api.Entry{})
	before := slices.Clone(room)
	text := strings.Clone(wholeText)
	s := opened(t, api.MaxQuota)
	b := checkBuild(t, s, text, room[:3], "-------")
	checkBuild(t, s, text, room[:3], "+++++++")
	s.Build(begun("RM x"), room[:2])
	if !slices.Equal(room, before) {
		t.Fatalf("P2: changed what was handed in: %v", room)
	}
	in := []string{text}
	for _, e := range room {
		in = append(in, e.Path, e.Data)
	}
	for _, f := range s.Files() {
		checkShares(t, in, f.Name, f.Data)
	}
	overwrite(room, api.Entry{Path: "x", Kind: 9})
	checkFiles(t, s, wholeFiles(t)...)
	i, err := s.Load(b.Manifest)
	if err != nil {
		t.Fatal(err)
	}
	for _, e := range i.Tree {
		checkShares(t, in, e.Path, e.Data)
	}
}

// What comes out is the asker's own: neither the store nor another answer has anything of it.
func TestP2BuildsAreNew(t *testing.T) {
	s := opened(t, api.MaxQuota)
	text, context := wholeText+"ENV B value\nMKDIR .\nMKDIR .\n", wholeContext(t)
	first := checkBuild(t, s, text, context, "--------+")
	kept := slices.Clone(first.Layers)
	image, err := s.Load(first.Manifest)
	if err != nil {
		t.Fatal(err)
	}
	want := api.Image{Env: slices.Clone(image.Env), Work: image.Work, Tree: slices.Clone(image.Tree)}
	out := append([]string{first.Manifest, image.Work}, kept...)
	for range 3 {
		overwrite(first.Layers, "x")
		overwrite(first.Hits, false)
		overwrite(image.Env, "x")
		overwrite(image.Tree, api.Entry{Path: "x", Kind: 9})
		first = checkBuild(t, s, text, context, "+++++++++")
		if !slices.Equal(first.Layers, kept) {
			t.Fatalf("P2: layers %q; want %q", first.Layers, kept)
		}
		checkLoad(t, s, first.Manifest, want)
		if image, err = s.Load(first.Manifest); err != nil {
			t.Fatal(err)
		}
		now := slices.Concat([]string{first.Manifest, image.Work}, first.Layers, image.Env)
		for _, e := range image.Tree {
			now = append(now, e.Path, e.Data)
		}
		checkShares(t, out, now...)
		for i, a := range now {
			checkShares(t, now[:i], a)
		}
		for _, f := range s.Files() {
			checkShares(t, now, f.Name, f.Data)
		}
		for _, text := range now {
			for _, f := range s.Files() {
				if isPieceOf(text, f.Data) {
					t.Errorf("P2: %q that comes out is a piece of a file", text)
				}
			}
		}
		out = append(out, now...)
	}
}

// What a build comes to hangs on its arguments and on its store alone.
func TestP2BuildsHangOnArguments(t *testing.T) {
	one, two := opened(t, api.MaxQuota), opened(t, api.MaxQuota)
	for range 20 {
		checkBuild(t, opened(t, api.MaxQuota), wholeText, wholeContext(t), "-------")
	}
	a := checkBuild(t, one, wholeText, wholeContext(t), "-------")
	checkFiles(t, two)
	checkActs(t, two)
	b := checkBuild(t, two, wholeText, wholeContext(t), "-------")
	if builtTold(a, nil) != builtTold(b, nil) || !slices.Equal(one.Acts(), two.Acts()) {
		t.Errorf("P2: %v, then %v", a, b)
	}
	checkNoLoad(t, opened(t, api.MaxQuota), a.Manifest, api.ErrNone)
}
