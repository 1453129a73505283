package trees

import (
	"slices"
	"testing"

	"layers/api"
)

func TestInside(t *testing.T) {
	root, err := Of([]api.Entry{
		{Path: "a", Kind: api.Dir}, {Path: "a/z", Kind: api.File}, {Path: "a-b", Kind: api.File}, {Path: "a.b", Kind: api.Link, Data: "x"}, {Path: "b", Kind: api.Dir},
	})
	if err != nil {
		t.Fatal(err)
	}
	var names []string
	for name, kid := range root.Inside() {
		if kid.Path != name {
			t.Errorf("%q stands under the name %q", kid.Path, name)
		}
		names = append(names, name)
	}
	if !slices.Equal(names, []string{"a", "a-b", "a.b", "b"}) {
		t.Errorf("in the root are %q", names)
	}
}

func TestInsideLeftEarly(t *testing.T) {
	root, err := Of([]api.Entry{{Path: "a", Kind: api.Dir}, {Path: "b", Kind: api.Dir}})
	if err != nil {
		t.Fatal(err)
	}
	n := 0
	for range root.Inside() {
		n++
		break
	}
	if n != 1 {
		t.Errorf("came to %d entries; want 1", n)
	}
}

func TestRoot(t *testing.T) {
	root, err := Of(nil)
	if err != nil || root.Path != "" || root.Kind != api.Dir || root.Mode != 0755 {
		t.Errorf("the root: %v, %v", root, err)
	}
}
