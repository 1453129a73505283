package paths

import (
	"slices"
	"strings"
	"testing"

	"layers/api"
)

func TestElementBytes(t *testing.T) {
	const may = "abcdefghijklmnopqrstuvwxyzABCDEFGHIJKLMNOPQRSTUVWXYZ0123456789._-"
	for c := range 256 {
		s := "x" + string([]byte{byte(c)})
		if got, want := IsElement(s), strings.IndexByte(may, byte(c)) >= 0; got != want {
			t.Errorf("IsElement(%q): %v; want %v", s, got, want)
		}
	}
}

func TestIsElement(t *testing.T) {
	for s, want := range map[string]bool{
		"a": true, ".a": true, "...": true, "-": true, "_": true, ".wh": true, "a.wh.": true, ".wha": true, ".WH.a": true,
		strings.Repeat("n", api.MaxName): true, strings.Repeat("n", api.MaxName+1): false,
		"": false, ".": false, "..": false, ".wh.": false, ".wh.a": false, ".wh..wh..opq": false, "a/b": false,
	} {
		if got := IsElement(s); got != want {
			t.Errorf("IsElement(%q): %v; want %v", s, got, want)
		}
	}
}

func TestIs(t *testing.T) {
	name := strings.Repeat("n", api.MaxName)
	deep := strings.Repeat("a/", api.MaxDeep-1) + "a"
	long := name + "/" + name + "/" + name[:api.MaxPath-2*api.MaxName-2]
	for s, want := range map[string]bool{
		Root: true, "a": true, "a/b": true, ".../-": true, deep: true, long: true,
		"/": false, "/a": false, "a/": false, "a//b": false, "a/./b": false, "a/../b": false, "a b": false, "a/.wh.b": false,
		deep + "/a": false, long + "n": false, name + "n": false, "a/\x00": false, "é": false,
	} {
		if got := Is(s); got != want {
			t.Errorf("Is(%q): %v; want %v", s, got, want)
		}
	}
}

func TestLastAndJoin(t *testing.T) {
	for _, x := range []struct{ path, dir, name string }{
		{"a", Root, "a"}, {"a/b", "a", "b"}, {"a/b/c", "a/b", "c"},
	} {
		if dir, name := Last(x.path); dir != x.dir || name != x.name {
			t.Errorf("Last(%q): %q, %q", x.path, dir, name)
		}
		if path := Join(x.dir, x.name); path != x.path {
			t.Errorf("Join(%q, %q): %q", x.dir, x.name, path)
		}
	}
}

// The order is told by a list that rises in it: each two of its paths stand as their numbers do.
func TestCompare(t *testing.T) {
	l := []string{Root, "-", ".a", "0", "A", "_", "a", "a/-", "a/b", "a/b/c", "a/b-", "a/b0", "a-", "a-/z", "a-b", "a.b", "a0", "ab", "b", "b/a"}
	for i, a := range l {
		for j, b := range l {
			want := 0
			if i < j {
				want = -1
			} else if i > j {
				want = 1
			}
			if got := Compare(a, b); got != want {
				t.Errorf("Compare(%q, %q): %d; want %d", a, b, got, want)
			}
		}
	}
}

func TestElements(t *testing.T) {
	if l := Elements(Root); len(l) != 0 {
		t.Errorf("the root has the elements %q", l)
	}
	if l := Elements("a/b"); !slices.Equal(l, []string{"a", "b"}) {
		t.Errorf("a/b has the elements %q", l)
	}
}

func TestIsBelow(t *testing.T) {
	for _, x := range []struct {
		path, top string
		want      bool
	}{
		{"a/b", "a", true}, {"a/b/c", "a", true}, {"a/b/c", "a/b", true},
		{"a", "a", false}, {"a", "a/b", false}, {"a-b", "a", false}, {"ab/c", "a", false}, {"b/a", "a", false}, {"", "a", false},
	} {
		if got := IsBelow(x.path, x.top); got != x.want {
			t.Errorf("IsBelow(%q, %q): %v", x.path, x.top, got)
		}
	}
}

func TestBehind(t *testing.T) {
	for _, x := range [][3]string{{"a", "", "a"}, {"a/b", "", "a/b"}, {"a/b", "a", "b"}, {"a/a/a", "a", "a/a"}, {"a/b/c", "a/b", "c"}} {
		if got := Behind(x[0], x[1]); got != x[2] || Join(x[1], got) != x[0] {
			t.Errorf("Behind(%q, %q): %q; want %q", x[0], x[1], got, x[2])
		}
	}
}
