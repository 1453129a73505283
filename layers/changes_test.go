package layers_test

import (
	"fmt"
	"math"
	"slices"
	"strings"
	"testing"
	"unsafe"

	"layers/api"
	"layers/layers"
	"layers/plain"
)

func gone(path string) api.Change {
	return api.Change{Path: path, Kind: api.Gone}
}

func cleared(path string) api.Change {
	return api.Change{Path: path, Kind: api.Clear}
}

// put: a change that is an entry.
func put(e api.Entry) api.Change {
	return api.Change(e)
}

// numbered: directories n00, n01, .. in the root.
func numbered(n int) []api.Entry {
	var l []api.Entry
	for i := range n {
		l = append(l, dir(fmt.Sprintf("n%02d", i), 0755))
	}
	return l
}

// isAt: the error is this one with this place, or, below 0, bare.
func isAt(err error, number api.Errno, place int) bool {
	if place < 0 {
		n, ok := err.(api.Errno)
		return ok && n == number
	}
	a, ok := err.(*api.At)
	return ok && *a == api.At{Err: number, Place: place}
}

func checkDiff(t *testing.T, a, b []api.Entry, want ...api.Change) {
	t.Helper()
	if got, err := layers.Diff(a, b); err != nil || !slices.Equal(got, want) {
		t.Errorf("P5: Diff(%v, %v): %v, %v; want %v", a, b, got, err, want)
	}
}

func checkNoDiff(t *testing.T, a, b []api.Entry, place int) {
	t.Helper()
	if got, err := layers.Diff(a, b); got != nil || !isAt(err, api.ErrTree, place) {
		t.Errorf("P5: Diff(%v, %v): %v, %v; want ErrTree at %d", a, b, got, err, place)
	}
}

func checkPatch(t *testing.T, a []api.Entry, l []api.Change, want ...api.Entry) {
	t.Helper()
	if got, err := layers.Patch(a, l); err != nil || !slices.Equal(got, want) {
		t.Errorf("P6: Patch(%v, %v): %v, %v; want %v", a, l, got, err, want)
	}
}

func checkNoPatch(t *testing.T, a []api.Entry, l []api.Change, number api.Errno, place int) {
	t.Helper()
	if got, err := layers.Patch(a, l); got != nil || !isAt(err, number, place) {
		t.Errorf("P6: Patch(%v, %v): %v, %v; want error %d at %d", a, l, got, err, number, place)
	}
}

// checkChanges: the list is changes, whatever becomes of a tree with them.
func checkChanges(t *testing.T, l ...api.Change) {
	t.Helper()
	if _, err := layers.Patch(nil, l); isChangeError(err) {
		t.Errorf("P6: %v: %v; want changes", l, err)
	}
}

func isChangeError(err error) bool {
	n, _ := api.Tell(err)
	return n == api.ErrChange
}

func checkNoChanges(t *testing.T, place int, l ...api.Change) {
	t.Helper()
	checkNoPatch(t, nil, l, api.ErrChange, place)
}

func TestP5Examples(t *testing.T) {
	checkDiff(t, []api.Entry{dir("src", 0755), file("src/main", 0644, "hi")}, []api.Entry{link("src", "x")}, put(link("src", "x")))
	checkDiff(t, []api.Entry{file("a", 0, ""), file("b", 0, "")}, nil, cleared(""))
	checkDiff(t, []api.Entry{file("a", 0, "")}, nil, gone("a"))
}

func TestP5Entries(t *testing.T) {
	all := []api.Entry{dir("a", 0755), file("a/b", 0644, "b"), dir("a-b", 0), link("c", "a")}
	checkDiff(t, nil, nil)
	checkDiff(t, all, all)
	checkDiff(t, nil, all, put(all[0]), put(all[1]), put(all[2]), put(all[3]))
	// Each thing by which two entries of one path may differ.
	for _, pair := range [][2]api.Entry{
		{dir("a", 0755), dir("a", 0700)},
		{file("a", 0644, "x"), file("a", 0600, "x")},
		{file("a", 0644, "x"), file("a", 0644, "y")},
		{file("a", 0, "x"), link("a", "x")},
		{link("a", "x"), link("a", "y")},
		{dir("a", 0), file("a", 0, "")},
		{dir("a", 0), link("a", "x")},
	} {
		old, now := pair[0], pair[1]
		checkDiff(t, []api.Entry{old}, []api.Entry{now}, put(now))
		checkDiff(t, []api.Entry{now}, []api.Entry{old}, put(old))
		checkDiff(t, []api.Entry{old}, []api.Entry{old})
	}
}

// Two or more entries in a Dir of both, none of which is left, are told by a Clear.
func TestP5Clear(t *testing.T) {
	d := dir("d", 0755)
	x, y, z := file("d/x", 0, "x"), dir("d/y", 0), file("d/z", 0, "z")
	two := []api.Entry{d, x, y}
	checkDiff(t, two, []api.Entry{d}, cleared("d"))
	checkDiff(t, two, []api.Entry{d, z}, cleared("d"), put(z))
	checkDiff(t, []api.Entry{d, x, y, z}, []api.Entry{d}, cleared("d"))
	// A Dir of another mode is one in both, too: its Clear stands behind it.
	checkDiff(t, two, []api.Entry{dir("d", 0700), z}, put(dir("d", 0700)), cleared("d"), put(z))
	// One that is left, even as another thing, or one alone: no Clear.
	checkDiff(t, two, []api.Entry{d, x}, gone("d/y"))
	checkDiff(t, two, []api.Entry{d, link("d/x", "t")}, put(link("d/x", "t")), gone("d/y"))
	checkDiff(t, []api.Entry{d, x}, []api.Entry{d}, gone("d/x"))
	checkDiff(t, []api.Entry{d, x}, []api.Entry{d, z}, gone("d/x"), put(z))
	checkDiff(t, []api.Entry{d}, []api.Entry{d, z}, put(z))
	// What is deeper does not count.
	deep := []api.Entry{d, y, file("d/y/1", 0, ""), file("d/y/2", 0, "")}
	checkDiff(t, deep, []api.Entry{d}, gone("d/y"))
	checkDiff(t, deep, []api.Entry{d, y}, cleared("d/y"))
}

func TestP5ClearOfRoot(t *testing.T) {
	two := []api.Entry{dir("a", 0755), file("a/x", 0, ""), file("a/y", 0, ""), file("b", 0, "")}
	checkDiff(t, two, nil, cleared(""))
	checkDiff(t, two, []api.Entry{dir("c", 0)}, cleared(""), put(dir("c", 0)))
	checkDiff(t, two, []api.Entry{file("b", 0, "")}, gone("a"))
	checkDiff(t, two, []api.Entry{dir("b", 0)}, gone("a"), put(dir("b", 0)))
	checkDiff(t, two[:3], nil, gone("a"))
	checkDiff(t, two, []api.Entry{dir("a", 0755), file("b", 0, "")}, cleared("a"))
}

// Nothing is said of what lay below something that is gone, or is no Dir any more.
func TestP5BelowWhatIsNoDir(t *testing.T) {
	a := []api.Entry{dir("d", 0755), dir("d/e", 0), file("d/e/x", 0, ""), file("d/e/y", 0, ""), file("d/z", 0, ""), file("k", 0, "")}
	k := file("k", 0, "")
	checkDiff(t, a, []api.Entry{k}, gone("d"))
	checkDiff(t, a, []api.Entry{file("d", 0, ""), k}, put(file("d", 0, "")))
	checkDiff(t, a, []api.Entry{link("d", "k"), k}, put(link("d", "k")))
	checkDiff(t, a, []api.Entry{dir("d", 0755), link("d/e", "k"), k}, put(link("d/e", "k")), gone("d/z"))
	checkDiff(t, a, []api.Entry{dir("d", 0755), k}, cleared("d"))
	checkDiff(t, a, []api.Entry{dir("d", 0755), file("d/z", 0, ""), k}, gone("d/e"))
	// What was no Dir has nothing in it to tell.
	checkDiff(t, []api.Entry{file("d", 0, "")}, []api.Entry{dir("d", 0), dir("d/e", 0)}, put(dir("d", 0)), put(dir("d/e", 0)))
}

// The changes stand in tree order, not in that of texts.
func TestP5Order(t *testing.T) {
	a := []api.Entry{dir("a", 0), file("a/y", 0, ""), dir("a-b", 0), dir("z", 0)}
	b := []api.Entry{dir("a", 0), file("a/z", 0, ""), dir("a.b", 0), dir("z", 0)}
	checkDiff(t, a, b, gone("a/y"), put(b[1]), gone("a-b"), put(b[2]))
}

func TestP5NoTree(t *testing.T) {
	good := []api.Entry{dir("a", 0)}
	bad := []api.Entry{dir("a", 0), dir("b", 0), dir("b", 0)}
	worse := []api.Entry{dir("a", -1)}
	checkNoDiff(t, bad, good, 2)
	checkNoDiff(t, good, bad, 2)
	checkNoDiff(t, bad, worse, 2)
	checkNoDiff(t, worse, bad, 0)
	many := numbered(api.MaxEntries + 1)
	checkNoDiff(t, many, nil, api.MaxEntries)
	checkNoDiff(t, nil, many, api.MaxEntries)
}

// Two great trees of which all but one path differ.
func TestP5Most(t *testing.T) {
	a := append([]api.Entry{dir("k", 0755)}, numbered(api.MaxEntries-1)...)
	b := []api.Entry{dir("k", 0700)}
	want := []api.Change{put(b[0])}
	for _, e := range a[1:] {
		e.Path += "-"
		b = append(b, e)
		want = append(want, gone(strings.TrimSuffix(e.Path, "-")), put(e))
	}
	checkDiff(t, a, b, want...)
	checkPatch(t, a, want, b...)
}

func TestP6Entries(t *testing.T) {
	a := []api.Entry{dir("a", 0755), file("a/b", 0644, "b"), link("c", "a")}
	checkPatch(t, nil, nil)
	checkPatch(t, a, nil, a...)
	checkPatch(t, nil, []api.Change{put(a[0]), put(a[1]), put(a[2])}, a...)
	checkPatch(t, a, []api.Change{put(a[0]), put(a[1]), put(a[2])}, a...)
	checkPatch(t, a, []api.Change{put(file("a/a", 1, "x")), put(dir("b", 2))}, a[0], file("a/a", 1, "x"), a[1], dir("b", 2), a[2])
	// It is put in tree order, wherever it was told.
	checkPatch(t, a, []api.Change{put(file("a/z", 0, "")), put(file("a-b", 0, ""))}, a[0], a[1], file("a/z", 0, ""), file("a-b", 0, ""), a[2])
}

// What is in a Dir stays just if another Dir is put there.
func TestP6PutOverSomething(t *testing.T) {
	a := []api.Entry{dir("a", 0755), dir("a/b", 0), file("a/b/c", 0, "c"), file("f", 0644, "f")}
	checkPatch(t, a, []api.Change{put(dir("a", 0700))}, dir("a", 0700), a[1], a[2], a[3])
	checkPatch(t, a, []api.Change{put(dir("a", 0755))}, a...)
	checkPatch(t, a, []api.Change{put(file("a", 0, "x"))}, file("a", 0, "x"), a[3])
	checkPatch(t, a, []api.Change{put(link("a", "x"))}, link("a", "x"), a[3])
	checkPatch(t, a, []api.Change{put(dir("f", 0700))}, a[0], a[1], a[2], dir("f", 0700))
	checkPatch(t, a, []api.Change{put(dir("f", 0)), put(dir("f/g", 0))}, a[0], a[1], a[2], dir("f", 0), dir("f/g", 0))
	checkPatch(t, a, []api.Change{put(file("f", 0600, "f"))}, a[0], a[1], a[2], file("f", 0600, "f"))
	checkPatch(t, a, []api.Change{put(dir("a/b", 0777)), put(dir("a/b/c", 0))}, a[0], dir("a/b", 0777), dir("a/b/c", 0), a[3])
}

func TestP6Marks(t *testing.T) {
	a := []api.Entry{dir("a", 0755), dir("a/b", 0), file("a/b/c", 0, "c"), file("a/d", 0, ""), dir("a-b", 0), file("f", 0644, "f")}
	checkPatch(t, a, []api.Change{gone("a")}, a[4], a[5])
	checkPatch(t, a, []api.Change{gone("a/b")}, a[0], a[3], a[4], a[5])
	checkPatch(t, a, []api.Change{gone("f")}, a[:5]...)
	checkPatch(t, a, []api.Change{cleared("a")}, a[0], a[4], a[5])
	checkPatch(t, a, []api.Change{cleared("a/b")}, a[0], a[1], a[3], a[4], a[5])
	checkPatch(t, a, []api.Change{cleared("a-b")}, a...)
	checkPatch(t, a, []api.Change{cleared("")})
	checkPatch(t, nil, []api.Change{cleared("")})
	checkPatch(t, a, []api.Change{put(dir("a", 0700)), cleared("a"), gone("f")}, dir("a", 0700), a[4])
}

// All marks are held against the tree as it was, and done ahead of all entries.
func TestP6MarksGoFirst(t *testing.T) {
	a := []api.Entry{dir("a", 0755), dir("a/b", 0), file("a/b/c", 0, "c"), file("a/d", 0, "")}
	checkPatch(t, a, []api.Change{cleared(""), gone("a/b/c")})
	checkPatch(t, a, []api.Change{cleared(""), cleared("a"), cleared("a/b")})
	checkPatch(t, a, []api.Change{cleared("a"), gone("a/b"), gone("a/d")}, a[0])
	checkPatch(t, a, []api.Change{cleared("a"), put(dir("a/b", 7)), gone("a/d")}, a[0], dir("a/b", 7))
	// An entry that is told ahead of a mark is put behind it.
	checkPatch(t, a, []api.Change{put(dir("a", 1)), cleared("a"), put(dir("a/b", 2)), cleared("a/b"), put(file("a/b/e", 3, ""))}, dir("a", 1), dir("a/b", 2), file("a/b/e", 3, ""))
	checkNoPatch(t, a, []api.Change{gone("a/b"), cleared("b")}, api.ErrMissing, 1)
	checkNoPatch(t, nil, []api.Change{put(dir("a", 0)), cleared("a")}, api.ErrMissing, 1)
	checkNoPatch(t, nil, []api.Change{put(dir("a", 0)), gone("a/b")}, api.ErrMissing, 1)
}

func TestP6Missing(t *testing.T) {
	a := []api.Entry{dir("a", 0755), file("a/f", 0, ""), link("l", "a")}
	for _, c := range []api.Change{gone("b"), gone("a/b"), gone("a/f/g"), gone("l/f"), gone("a/f-"), cleared("b"), cleared("a/f"), cleared("l"), cleared("a/b")} {
		checkNoPatch(t, a, []api.Change{c}, api.ErrMissing, 0)
		checkNoPatch(t, a, []api.Change{cleared(""), c}, api.ErrMissing, 1)
		checkNoPatch(t, a, []api.Change{c, gone("z")}, api.ErrMissing, 0)
	}
	checkNoPatch(t, a, []api.Change{put(dir("a", 0)), cleared("a"), put(dir("b", 0)), gone("c"), gone("d")}, api.ErrMissing, 3)
}

// The directory must be there by then, and be one.
func TestP6Kind(t *testing.T) {
	a := []api.Entry{dir("a", 0755), file("a/f", 0, ""), link("l", "a")}
	for _, e := range []api.Entry{dir("b/c", 0), file("b/c", 0, ""), link("b/c", "x"), dir("a/b/c", 0), dir("a/f/g", 0), file("l/g", 0, "")} {
		checkNoPatch(t, a, []api.Change{put(e)}, api.ErrKind, 0)
		checkNoPatch(t, a, []api.Change{cleared(""), put(dir("Z", 0)), put(e)}, api.ErrKind, 2)
	}
	checkNoPatch(t, a, []api.Change{cleared(""), put(dir("a/b", 0))}, api.ErrKind, 1)
	checkNoPatch(t, a, []api.Change{put(dir("b", 0)), put(dir("b/c/d", 0)), put(dir("x/y", 0))}, api.ErrKind, 1)
	checkPatch(t, a, []api.Change{put(dir("l", 1)), put(dir("l/m", 2))}, a[0], a[1], dir("l", 1), dir("l/m", 2))
}

func TestP6Bound(t *testing.T) {
	many := numbered(api.MaxEntries)
	z := dir("z", 0)
	checkNoPatch(t, many, []api.Change{put(z)}, api.ErrBound, -1)
	checkPatch(t, many[1:], []api.Change{put(z)}, append(slices.Clone(many[1:]), z)...)
	checkPatch(t, many, []api.Change{gone("n00"), put(z)}, append(slices.Clone(many[1:]), z)...)
	checkPatch(t, many, []api.Change{put(dir("n00", 0755))}, many...)
	// Only what comes out is counted: on the way there may be more.
	deep := append(slices.Clone(many[:api.MaxEntries-2]), z, dir("z/y", 0))
	checkPatch(t, deep, []api.Change{put(dir("a", 0)), put(file("z", 0, ""))}, append(append([]api.Entry{dir("a", 0)}, many[:api.MaxEntries-2]...), file("z", 0, ""))...)
}

func TestP6FirstError(t *testing.T) {
	a := []api.Entry{dir("a", 0)}
	noTree := []api.Entry{dir("a", 0), dir("a", 0)}
	noChange, missing, kind := gone("-/"), gone("b"), put(dir("Q/b", 0))
	checkNoPatch(t, noTree, []api.Change{noChange}, api.ErrTree, 1)
	checkNoPatch(t, noTree, nil, api.ErrTree, 1)
	checkNoPatch(t, a, []api.Change{kind, missing, {}}, api.ErrChange, 2)
	checkNoPatch(t, a, []api.Change{kind, missing}, api.ErrMissing, 1)
	many := numbered(api.MaxEntries)
	checkNoPatch(t, many, []api.Change{put(dir("a", 0)), put(dir("x/y", 0))}, api.ErrKind, 1)
	checkNoPatch(t, many, []api.Change{put(dir("a", 0)), gone("b"), put(dir("x/y", 0))}, api.ErrMissing, 1)
}

// noChange: changes that are none by themselves.
func noChange() []api.Change {
	long := strings.Repeat("n", api.MaxName+1)
	return []api.Change{
		{}, {Path: "a"}, {Path: "a", Kind: -1}, {Path: "a", Kind: 6}, {Path: "a", Kind: math.MaxInt}, {Path: "a", Kind: math.MinInt},
		gone(""), gone("/"), gone("a/"), gone("/a"), gone("a//b"), gone(".."), gone(".wh.a"), gone("a b"), gone(long),
		cleared("/"), cleared("a/"), cleared("."), cleared("a/.wh..wh..opq"), cleared(long),
		{Path: "a", Kind: api.Gone, Mode: 1}, {Path: "a", Kind: api.Gone, Mode: -1}, {Path: "a", Kind: api.Gone, Data: "d"},
		{Path: "a", Kind: api.Clear, Mode: 1}, {Path: "a", Kind: api.Clear, Mode: 0755}, {Path: "a", Kind: api.Clear, Data: "d"},
		{Path: "", Kind: api.Clear, Mode: 1}, {Path: "", Kind: api.Clear, Data: "d"},
		put(dir("", 0755)), put(file("", 0, "")), put(link("", "x")), put(dir("a/", 0)), put(dir("a", -1)), put(dir("a", api.MaxMode+1)), {Path: "a", Kind: api.Dir, Data: "d"},
		put(file("a", api.MaxMode+1, "")), put(file("a", 0, strings.Repeat("d", api.MaxFile+1))),
		put(link("a", "")), put(link("a", " ")), put(link("a", strings.Repeat("t", api.MaxLink+1))), {Path: "a", Kind: api.Link, Mode: 1, Data: "x"},
	}
}

// Each change that is none by itself, wherever it stands.
func TestP6NoChange(t *testing.T) {
	for _, c := range noChange() {
		checkNoChanges(t, 0, c)
		checkNoChanges(t, 0, c, c)
		checkNoChanges(t, 1, put(dir("-", 0)), c, gone("z"))
	}
	for _, c := range []api.Change{
		gone("a"), cleared(""), cleared("a"), cleared("a/b"), put(dir("a", api.MaxMode)), put(file("a", 0, strings.Repeat("d", api.MaxFile))), put(link("a/b", strings.Repeat("t", api.MaxLink))),
	} {
		checkChanges(t, c)
	}
}

func TestP6ChangesAtOnePath(t *testing.T) {
	kinds := []api.Change{put(dir("d", 0)), put(file("d", 0, "")), put(link("d", "x")), gone("d"), cleared("d")}
	for _, first := range kinds {
		for _, second := range kinds {
			if first.Kind == api.Dir && second.Kind == api.Clear {
				checkChanges(t, first, second)
				checkNoChanges(t, 2, first, second, second)
				checkNoChanges(t, 2, first, second, first)
			} else {
				checkNoChanges(t, 1, first, second)
			}
		}
	}
	checkNoChanges(t, 1, cleared(""), cleared(""))
}

// Below a Dir and a Clear there may be changes, below the others not.
func TestP6ChangesBelow(t *testing.T) {
	for _, below := range []api.Change{put(dir("d/e", 0)), put(file("d/e/f", 0, "")), gone("d/e"), cleared("d/e")} {
		checkChanges(t, put(dir("d", 0)), below)
		checkChanges(t, cleared("d"), below)
		checkChanges(t, put(dir("d", 0)), cleared("d"), below)
		checkChanges(t, cleared(""), below)
		for _, top := range []api.Change{put(file("d", 0, "")), put(link("d", "x")), gone("d")} {
			checkNoChanges(t, 1, top, below)
			checkNoChanges(t, 2, cleared(""), top, below)
		}
	}
	// What only begins like it is not below it.
	checkChanges(t, gone("d"), cleared("d-"), gone("d-/x"), gone("da"))
	checkChanges(t, put(file("d", 0, "")), put(dir("d.e", 0)), put(dir("d.e/f", 0)))
}

func TestP6ChangesOrder(t *testing.T) {
	rising := []api.Change{cleared(""), put(dir("a", 0)), cleared("a"), gone("a/-"), cleared("a/b"), put(dir("a/b/c", 0)), gone("a/b-"), put(dir("a-", 0)), gone("a-b"), cleared("a0"), gone("ab"), put(link("b", "x"))}
	checkChanges(t, rising...)
	for i := range rising {
		for j := range i {
			checkNoChanges(t, 1, rising[i], rising[j])
		}
	}
}

func TestP6MaxChanges(t *testing.T) {
	var l []api.Change
	for i := range api.MaxChanges + 2 {
		l = append(l, cleared(fmt.Sprintf("c%03d", i)))
	}
	checkChanges(t, l[:api.MaxChanges]...)
	checkNoChanges(t, api.MaxChanges, l[:api.MaxChanges+1]...)
	checkNoChanges(t, api.MaxChanges, l...)
	l[9].Mode = 1
	checkNoChanges(t, 9, l...)
	// As many as there may be, all of them done.
	var a, want []api.Entry
	l = nil
	for _, e := range numbered(api.MaxEntries) {
		now := file(e.Path+"-", 0, "")
		a, want = append(a, e), append(want, now)
		l = append(l, gone(e.Path), put(now))
	}
	checkPatch(t, a, l, want...)
}

func TestP1ChangesNoPanic(t *testing.T) {
	texts := []string{"", "/", ".", "a", "a/b", "\x00", "\xff\xfe", strings.Repeat("/", 1<<16), strings.Repeat("a/", 1<<16), strings.Repeat("a", 1<<20)}
	numbers := []int{math.MinInt, -1, 0, 1, 2, 3, 4, 5, 6, api.MaxMode, math.MaxInt}
	good := []api.Entry{dir("a", 0), file("a/b", 0, "")}
	for _, s := range texts {
		for _, kind := range numbers {
			for _, mode := range numbers {
				e := api.Entry{Path: s, Kind: kind, Mode: mode, Data: s}
				for _, l := range [][]api.Entry{{e}, {e, e}, {good[0], e}} {
					checkZeroBesideError(t, l, good)
					checkZeroBesideError(t, good, l)
				}
			}
		}
	}
	checkNoDiff(t, make([]api.Entry, 1<<16), nil, 0)
	checkNoChanges(t, 0, make([]api.Change, 1<<16)...)
}

// checkZeroBesideError: neither Diff of two lists, nor Patch of the first with the second as changes, tells a list beside an error.
func checkZeroBesideError(t *testing.T, a, b []api.Entry) {
	t.Helper()
	if got, err := layers.Diff(a, b); err != nil && got != nil {
		t.Errorf("P1: Diff: %v beside %v", got, err)
	}
	var l []api.Change
	for _, e := range b {
		l = append(l, put(e))
	}
	if got, err := layers.Patch(a, l); err != nil && got != nil {
		t.Errorf("P1: Patch: %v beside %v", got, err)
	}
}

// What is handed in stays as it is, behind its end too, and what comes out is new.
func TestP2ChangesNothingWritten(t *testing.T) {
	a := []api.Entry{dir("a", 0755), file("a/b", 0644, "b"), link("c", "a"), dir("spare", 0), {}}
	b := []api.Entry{dir("a", 0700), dir("a/d", 0), file("b", 0644, "b"), dir("spare", 0), {}}
	l := []api.Change{put(dir("a", 0700)), cleared("a"), put(file("b", 0, "b")), gone("c"), put(dir("spare", 0)), {}}
	keptA, keptB, keptL := slices.Clone(a), slices.Clone(b), slices.Clone(l)
	for n := range 4 {
		for m := range 4 {
			diff, err := layers.Diff(a[:n], b[:m])
			if err != nil {
				t.Fatal(err)
			}
			overwrite(diff, api.Change{Path: "x", Kind: 9})
		}
		for m := range 5 {
			if tree, err := layers.Patch(a[:n], l[:m]); err == nil {
				overwrite(tree, api.Entry{Path: "x", Kind: 9})
			}
		}
		if !slices.Equal(a, keptA) || !slices.Equal(b, keptB) || !slices.Equal(l, keptL) {
			t.Fatalf("P2: changed what was handed in: %v, %v, %v", a, b, l)
		}
	}
}

// overwrite fills a list and its spare room.
func overwrite[T any](l []T, with T) {
	l = l[:cap(l)]
	for i := range l {
		l[i] = with
	}
}

func TestP2ChangesAnswersHangOnArguments(t *testing.T) {
	a := []api.Entry{dir("a", 0755), file("a/b", 0644, "b"), file("a/c", 0644, "c"), link("c", "a"), dir("d", 0)}
	b := []api.Entry{dir("a", 0700), file("b", 0644, "b"), dir("c", 0), dir("e", 0), dir("f", 0)}
	first, err := layers.Diff(a, b)
	if err != nil {
		t.Fatal(err)
	}
	for range 100 {
		checkDiff(t, a, b, first...)
		checkPatch(t, a, first, b...)
		checkNoPatch(t, a, []api.Change{put(dir("a", 1)), put(file("a/b", 1, "")), gone("q")}, api.ErrMissing, 2)
	}
}

// The texts that come out are new memory, too.
func TestP2ChangesShareNothing(t *testing.T) {
	a := []api.Entry{file("path-of-a-file", 0, "data of a file"), dir("path-of-a-directory", 0), file("path-of-a-directory/1", 0, "data 1"), file("path-of-a-directory/2", 0, "data 2")}
	slices.SortFunc(a, func(x, y api.Entry) int { return strings.Compare(x.Path, y.Path) })
	b := []api.Entry{dir("path-of-a-directory", 0), dir("path-of-another", 0), file("path-of-another/file", 0, "other data")}
	var in []string
	for _, e := range slices.Concat(a, b) {
		in = append(in, e.Path, e.Data)
	}
	l, err := layers.Diff(a, b)
	if err != nil || len(l) != 4 {
		t.Fatal(l, err)
	}
	for _, c := range l {
		checkShares(t, in, c.Path, c.Data)
		in = append(in, c.Path, c.Data)
	}
	tree, err := layers.Patch(a, l)
	if err != nil || !slices.Equal(tree, b) {
		t.Fatal(tree, err)
	}
	for _, e := range tree {
		checkShares(t, in, e.Path, e.Data)
	}
}

func checkShares(t *testing.T, in []string, out ...string) {
	t.Helper()
	for _, s := range in {
		for _, o := range out {
			if s != "" && o != "" && unsafe.StringData(s) == unsafe.StringData(o) {
				t.Errorf("P2: %q that comes out is that which was handed in", o)
			}
		}
	}
}

func TestPlainChanges(t *testing.T) {
	a := []api.Entry{dir("a", 0)}
	if l, e, at := plain.Diff(a, nil); !slices.Equal(l, []api.Change{gone("a")}) || e != api.OK || at != -1 {
		t.Errorf("P5: %v, %d, %d", l, e, at)
	}
	if l, e, at := plain.Diff(a, []api.Entry{{}}); l != nil || e != api.ErrTree || at != 0 {
		t.Errorf("P5: %v, %d, %d", l, e, at)
	}
	if l, e, at := plain.Patch(a, []api.Change{put(dir("b", 0))}); !slices.Equal(l, []api.Entry{a[0], dir("b", 0)}) || e != api.OK || at != -1 {
		t.Errorf("P6: %v, %d, %d", l, e, at)
	}
	if l, e, at := plain.Patch(a, []api.Change{put(dir("b", 0)), gone("c")}); l != nil || e != api.ErrMissing || at != 1 {
		t.Errorf("P6: %v, %d, %d", l, e, at)
	}
}
