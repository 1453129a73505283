package builds

import (
	"strings"
	"testing"

	"layers/api"
	"layers/archive"
	"layers/buildfile"
	"layers/digest"
	"layers/store"
	"layers/trees"
)

func TestEntries(t *testing.T) {
	e := entry{layer: digest.Of("a"), sum: digest.Of("b")}
	if got, ok := readEntry(e.text()); !ok || got != e {
		t.Errorf("of %q: %v, %v", e.text(), got, ok)
	}
	for _, text := range []string{"", "\n", "\n\n", e.text()[1:], e.text()[:129], e.text() + "\n", strings.ToUpper(e.text()), e.layer + "\n", e.layer + e.sum + "\n"} {
		if got, ok := readEntry(text); ok {
			t.Errorf("of %q: %v", text, got)
		}
	}
}

// newStore: a store with all room.
func newStore(t *testing.T) *store.Store {
	t.Helper()
	s, err := store.New(nil, api.MaxQuota)
	if err != nil {
		t.Fatal(err)
	}
	return s
}

func TestLay(t *testing.T) {
	s := newStore(t)
	data, err := archive.Pack([]api.Change{{Path: "a", Kind: api.Dir, Mode: 0700}})
	if err != nil {
		t.Fatal(err)
	}
	layer, err := s.Put(data)
	if err != nil {
		t.Fatal(err)
	}
	root := trees.New()
	if err := Lay(s, root, layer); err != nil || root.Below() != 1 || !root.Find("a").IsDir() {
		t.Errorf("%v, %v", err, root.List())
	}
	if err := Lay(s, root, digest.Of("none")); err != api.ErrNone {
		t.Errorf("%v; want ErrNone", err)
	}
	bad, err := s.Put("bad")
	if err != nil {
		t.Fatal(err)
	}
	if err := Lay(s, root, bad); err != api.ErrImage {
		t.Errorf("%v; want ErrImage", err)
	}
}

// A file may be built more than once; stages that begin with one stage have its layers, and not each other's.
func TestBuildTwice(t *testing.T) {
	f := buildfile.Read("FROM scratch AS a\nMKDIR a\nFROM a AS b\nMKDIR b\nFROM a AS c\nMKDIR c\nCOPY --from=b . .")
	s := newStore(t)
	first, err := Build(s, f, trees.New())
	if err != nil || len(first.Layers) != 3 || len(first.Hits) != 4 {
		t.Fatal(first, err)
	}
	again, err := Build(s, f, trees.New())
	if err != nil || again.Manifest != first.Manifest || len(again.Hits) != 4 {
		t.Error(again, err)
	}
	for i, hit := range again.Hits {
		if !hit || first.Hits[i] {
			t.Errorf("step %d: %v, then %v", i, first.Hits[i], hit)
		}
	}
}
