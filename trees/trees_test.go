package trees

import (
	"slices"
	"testing"

	"layers/api"
)

func TestInside(t *testing.T) {
	root, err := Of([]api.Entry{
		{Path: "a", Kind: api.Dir}, {Path: "a/z", Kind: api.File}, {Path: "a-b", Kind: api.File}, {Path: "a.b", Kind: api.Link, Data: "x"}, {Path: "b", Kind: api.Dir},
	})
	if err != nil {
		t.Fatal(err)
	}
	var names []string
	for name, kid := range root.Inside() {
		if kid.Path != name {
			t.Errorf("%q stands under the name %q", kid.Path, name)
		}
		names = append(names, name)
	}
	if !slices.Equal(names, []string{"a", "a-b", "a.b", "b"}) {
		t.Errorf("in the root are %q", names)
	}
}

func TestInsideLeftEarly(t *testing.T) {
	root, err := Of([]api.Entry{{Path: "a", Kind: api.Dir}, {Path: "b", Kind: api.Dir}})
	if err != nil {
		t.Fatal(err)
	}
	n := 0
	for range root.Inside() {
		n++
		break
	}
	if n != 1 {
		t.Errorf("came to %d entries; want 1", n)
	}
}

func TestRoot(t *testing.T) {
	root, err := Of(nil)
	if err != nil || root.Path != "" || root.Kind != api.Dir || root.Mode != 0755 {
		t.Errorf("the root: %v, %v", root, err)
	}
}

// someTree: a tree of which the order of texts is not the order of paths.
func someTree(t *testing.T) (*Node, []api.Entry) {
	t.Helper()
	l := []api.Entry{
		{Path: "a", Kind: api.Dir}, {Path: "a/b", Kind: api.Dir}, {Path: "a/b/c", Kind: api.File, Data: "x"}, {Path: "a/b-", Kind: api.File}, {Path: "a-b", Kind: api.Link, Data: "x"}, {Path: "b", Kind: api.Dir, Mode: 7},
	}
	root, err := Of(l)
	if err != nil {
		t.Fatal(err)
	}
	return root, l
}

func TestAll(t *testing.T) {
	root, l := someTree(t)
	var all []api.Entry
	for n := range root.All() {
		all = append(all, n.Entry)
	}
	if !slices.Equal(all[1:], l) || all[0] != root.Entry {
		t.Errorf("all: %v; want the root and %v", all, l)
	}
	if !slices.Equal(root.List(), l) || root.Below() != len(l) || root.Wide() != 3 {
		t.Errorf("the list: %v, %d, %d; want %v", root.List(), root.Below(), root.Wide(), l)
	}
}

func TestAllLeftEarly(t *testing.T) {
	root, l := someTree(t)
	for stop := 1; stop <= len(l)+1; stop++ {
		n := 0
		for range root.All() {
			if n++; n == stop {
				break
			}
		}
		if n != stop {
			t.Errorf("came to %d nodes; want %d", n, stop)
		}
	}
}

func TestPutAndRemove(t *testing.T) {
	root, l := someTree(t)
	if root.Put(api.Entry{Path: "c/d", Kind: api.Dir}) || root.Put(api.Entry{Path: "a/b/c/d", Kind: api.Dir}) {
		t.Error("put where no directory is")
	}
	if !root.Put(api.Entry{Path: "a", Kind: api.Dir, Mode: 1}) || root.Find("a").Mode != 1 || root.Find("a/b/c") == nil {
		t.Error("what is in a directory is to stay, and the mode to be the new one")
	}
	root.Remove("c/d/e")
	root.Clear("c/d")
	if root.Below() != len(l) {
		t.Error("what is not there was taken away")
	}
	root.Clear("a/b")
	root.Remove("b")
	if root.Find("a/b/c") != nil || root.Find("b") != nil || root.Below() != len(l)-2 {
		t.Errorf("left: %v", root.List())
	}
}

// What is done on a tree is not seen in one that was made of it, nor the other way round.
func TestClone(t *testing.T) {
	root, l := someTree(t)
	other := root.Clone()
	if !slices.Equal(other.List(), l) || other.Entry != root.Entry {
		t.Errorf("a clone: %v; want %v", other.List(), l)
	}
	other.Put(api.Entry{Path: "a", Kind: api.Dir, Mode: 1})
	other.Remove("a/b/c")
	other.Put(api.Entry{Path: "b/x", Kind: api.Dir})
	if !slices.Equal(root.List(), l) {
		t.Errorf("changed with its clone: %v", root.List())
	}
	changed := other.List()
	root.Clear("")
	if root.Below() != 0 || New().Below() != 0 || !slices.Equal(other.List(), changed) {
		t.Errorf("a clone, changed with what it is of: %v", other.List())
	}
}
