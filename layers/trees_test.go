package layers_test

import (
	"crypto/sha256"
	"encoding/hex"
	"fmt"
	"math"
	"slices"
	"strings"
	"testing"

	"layers/api"
	"layers/layers"
	"layers/plain"
)

func dir(path string, mode int) api.Entry {
	return api.Entry{Path: path, Kind: api.Dir, Mode: mode}
}

func file(path string, mode int, data string) api.Entry {
	return api.Entry{Path: path, Kind: api.File, Mode: mode, Data: data}
}

func link(path string, target string) api.Entry {
	return api.Entry{Path: path, Kind: api.Link, Data: target}
}

// digest: SHA-256, by another hand.
func digest(text string) string {
	s := sha256.Sum256([]byte(text))
	return hex.EncodeToString(s[:])
}

// isPathError: the answer is ErrPath, bare, and no text with it.
func isPathError(got string, err error) bool {
	n, ok := err.(api.Errno)
	return ok && n == api.ErrPath && got == ""
}

// isTreeError: the answer is ErrTree with this place, and no text with it.
func isTreeError(got string, err error, place int) bool {
	a, ok := err.(*api.At)
	return ok && *a == api.At{Err: api.ErrTree, Place: place} && got == ""
}

func checkResolve(t *testing.T, work, path, want string) {
	t.Helper()
	if got, err := layers.Resolve(work, path); err != nil || got != want {
		t.Errorf("P3: Resolve(%q, %q): %q, %v; want %q", work, path, got, err, want)
	}
}

func checkNoPath(t *testing.T, work, path string) {
	t.Helper()
	if got, err := layers.Resolve(work, path); !isPathError(got, err) {
		t.Errorf("P3: Resolve(%q, %q): %q, %v; want ErrPath", work, path, got, err)
	}
}

func checkSum(t *testing.T, l []api.Entry, want string) {
	t.Helper()
	if got, err := layers.Sum(l); err != nil || got != want {
		t.Errorf("P4: Sum(%v): %q, %v; want %q", l, got, err, want)
	}
}

func checkNoTree(t *testing.T, l []api.Entry, place int) {
	t.Helper()
	if got, err := layers.Sum(l); !isTreeError(got, err, place) {
		t.Errorf("P4: Sum of %d entries: %q, %v; want ErrTree at %d", len(l), got, err, place)
	}
}

func checkTree(t *testing.T, l []api.Entry) {
	t.Helper()
	if got, err := layers.Sum(l); err != nil || len(got) != 64 {
		t.Errorf("P4: Sum of %d entries: %q, %v; want a sum", len(l), got, err)
	}
}

func TestP3Resolve(t *testing.T) {
	for _, x := range []struct{ work, path, want string }{
		{"a/b", "../c//./d", "a/c/d"},
		{"a", "/x/", "x"},
		{"", "", ""},
		{"a/b", "", "a/b"},
		{"a/b", ".", "a/b"},
		{"a/b", "./", "a/b"},
		{"a/b", "//", ""},
		{"a/b", "/", ""},
		{"a/b", "..", "a"},
		{"a/b", "../..", ""},
		{"a/b", "../../", ""},
		{"a/b", "c/../../d", "a/d"},
		{"", "x/..", ""},
		{"", "x/../y", "y"},
		{"a", "/b/../c", "c"},
		{"a", "...", "a/..."},
		{"a", "..b", "a/..b"},
		{"a", ".wh", "a/.wh"},
		{"a", "b.wh.c", "a/b.wh.c"},
		{"A_9", "z-Z.0", "A_9/z-Z.0"},
	} {
		checkResolve(t, x.work, x.path, x.want)
	}
}

func TestP3NoPath(t *testing.T) {
	for _, x := range []struct{ work, path string }{
		{"a", "../.."},
		{"", ".."},
		{"a", "/.."},
		{"a", "/../a"},
		{"a", "../../a"},
		{"", "x/../.."},
		// Nothing that comes behind it mends a part that is no element.
		{"a", "b c/.."},
		{"a", ".wh.b/.."},
		{"a", ".wh."},
		{"a", ".wh..wh..opq"},
		{"a", "b\x00"},
		{"a", "é"},
		{"a", "\xff"},
		{"a", "b\n"},
		{"a", "b\\c"},
		{"a", "$A"},
	} {
		checkNoPath(t, x.work, x.path)
	}
}

// A directory that is no path is told, whatever the text is that is resolved in it.
func TestP3WorkIsNoPath(t *testing.T) {
	works := []string{
		"/", "/a", "a/", "a//b", ".", "..", "a/..", "a/./b", ".wh.a", "a b", "é",
		strings.Repeat("n", api.MaxName+1), strings.Repeat("a/", api.MaxDeep) + "a", strings.Repeat("x", 1<<20),
	}
	for _, work := range works {
		for _, path := range []string{"", "a", "/", "/a", "..", "../a"} {
			checkNoPath(t, work, path)
		}
	}
}

func TestP3Bounds(t *testing.T) {
	name := strings.Repeat("n", api.MaxName)
	checkResolve(t, "", name, name)
	checkNoPath(t, "", name+"n")
	checkNoPath(t, "", name+"n/..")

	deep := strings.Repeat("a/", api.MaxDeep-1) + "a"
	checkResolve(t, deep, "", deep)
	checkResolve(t, "", deep, deep)
	checkNoPath(t, "", deep+"/a")
	checkNoPath(t, deep, "a")

	long := name + "/" + name + "/" + name[:api.MaxPath-2*api.MaxName-2]
	checkResolve(t, long, ".", long)
	checkResolve(t, "", long, long)
	checkNoPath(t, "", long+"n")
	checkNoPath(t, long, "n")
}

// The bounds are of what comes out, not of what stands there on the way.
func TestP3BoundsOnTheWay(t *testing.T) {
	deep := strings.Repeat("a/", api.MaxDeep-1) + "a"
	checkResolve(t, deep, "a/a/../..", deep)
	name := strings.Repeat("n", api.MaxName)
	checkResolve(t, name+"/"+name, name+"/../b", name+"/"+name+"/b")
	checkResolve(t, "", strings.Repeat("a/", 1000)+strings.Repeat("../", 999), "a")
	checkResolve(t, "a", strings.Repeat("./", 1000)+"b", "a/b")
}

func TestP4Sum(t *testing.T) {
	checkSum(t, nil, digest("dir 755\n"))
	checkSum(t, []api.Entry{}, digest("dir 755\n"))
	checkSum(t, []api.Entry{file("f", 0644, "hi")}, digest("dir 755\nf "+digest("file 644 2\nhi")+"\n"))
	checkSum(t, []api.Entry{file("f", 0, "")}, digest("dir 755\nf "+digest("file 0 0\n")+"\n"))
	checkSum(t, []api.Entry{file("f", 07, "\x00\n\xff")}, digest("dir 755\nf "+digest("file 7 3\n\x00\n\xff")+"\n"))
	checkSum(t, []api.Entry{link("l", "../x")}, digest("dir 755\nl "+digest("link ../x")+"\n"))
	checkSum(t, []api.Entry{dir("d", 0)}, digest("dir 755\nd "+digest("dir 0\n")+"\n"))
}

// What is in a directory stands in its sum by last elements, and only there.
func TestP4SumOfDirs(t *testing.T) {
	l := []api.Entry{
		dir("a", 0700), dir("a/b", 0777), file("a/b/c", 0600, "c"), link("a/b-", "t"), file("a/b0", 1, strings.Repeat("z", 1000)),
		file("a-b", 0444, "1"), file("a.b", 0444, "2"), dir("b", 0),
	}
	b := digest("dir 777\nc " + digest("file 600 1\nc") + "\n")
	a := digest("dir 700\nb " + b + "\nb- " + digest("link t") + "\nb0 " + digest("file 1 1000\n"+strings.Repeat("z", 1000)) + "\n")
	want := digest("dir 755\na " + a + "\na-b " + digest("file 444 1\n1") + "\na.b " + digest("file 444 1\n2") + "\nb " + digest("dir 0\n") + "\n")
	checkSum(t, l, want)
}

// Whatever is changed of an entry, the sum is another one.
func TestP4SumsDiffer(t *testing.T) {
	lists := [][]api.Entry{
		nil,
		{file("a", 0, "")}, {file("a", 1, "")}, {file("a", 0, "x")}, {file("b", 0, "")},
		{dir("a", 0)}, {dir("a", 1)}, {dir("b", 0)},
		{link("a", "x")}, {link("a", "y")}, {link("b", "x")},
		{dir("a", 0), dir("b", 0)}, {dir("a", 0), dir("a/b", 0)}, {dir("a", 0), file("a/b", 0, "")},
	}
	seen := map[string]int{}
	for i, l := range lists {
		s, err := layers.Sum(l)
		if err != nil {
			t.Errorf("P4: list %d: %v", i, err)
		}
		if j, ok := seen[s]; ok {
			t.Errorf("P4: lists %d and %d have one sum", j, i)
		}
		seen[s] = i
	}
}

func TestP4Entries(t *testing.T) {
	good := []api.Entry{
		dir("a", 0), dir("a", api.MaxMode),
		file("a", 0, ""), file("a", api.MaxMode, strings.Repeat("d", api.MaxFile)),
		link("a", "!"), link("a", "~"), link("a", strings.Repeat("t", api.MaxLink)),
	}
	for _, e := range good {
		checkTree(t, []api.Entry{e})
	}
	bad := []api.Entry{
		{}, {Path: "a"}, {Path: "a", Kind: api.Gone}, {Path: "a", Kind: api.Clear}, {Path: "a", Kind: -1}, {Path: "a", Kind: 6}, {Path: "a", Kind: math.MaxInt},
		dir("a", -1), dir("a", api.MaxMode+1), dir("a", math.MinInt), dir("a", math.MaxInt),
		{Path: "a", Kind: api.Dir, Data: "d"},
		file("a", -1, ""), file("a", api.MaxMode+1, ""), file("a", 0, strings.Repeat("d", api.MaxFile+1)),
		link("a", ""), link("a", strings.Repeat("t", api.MaxLink+1)), link("a", " "), link("a", "x\x7f"), link("a", "\n"), link("a", "é"),
		{Path: "a", Kind: api.Link, Mode: 1, Data: "t"}, {Path: "a", Kind: api.Link, Mode: -1, Data: "t"},
	}
	for _, e := range bad {
		checkNoTree(t, []api.Entry{e}, 0)
		checkNoTree(t, []api.Entry{dir("-", 0), e, {}}, 1)
	}
}

func TestP4Paths(t *testing.T) {
	name := strings.Repeat("n", api.MaxName)
	checkTree(t, []api.Entry{dir(name, 0)})
	for _, path := range []string{"", "/", "/b", "b/", "b//c", ".", "..", "./b", "b/../c", ".wh.b", "b c", "é", "\x00", name + "n"} {
		checkNoTree(t, []api.Entry{dir(path, 0)}, 0)
		checkNoTree(t, []api.Entry{dir("-", 0), dir(path, 0)}, 1)
	}
}

// chain: directories, one in the other, of these names.
func chain(names ...string) []api.Entry {
	var l []api.Entry
	for i := range names {
		l = append(l, dir(strings.Join(names[:i+1], "/"), 0755))
	}
	return l
}

func TestP4PathBounds(t *testing.T) {
	deep := slices.Repeat([]string{"a"}, api.MaxDeep)
	checkTree(t, chain(deep...))
	checkNoTree(t, chain(append(deep, "a")...), api.MaxDeep)

	name := strings.Repeat("n", api.MaxName)
	left := api.MaxPath - 2*api.MaxName - 2
	checkTree(t, chain(name, name, name[:left]))
	checkNoTree(t, chain(name, name, name[:left+1]), 2)
}

func TestP4MaxEntries(t *testing.T) {
	var l []api.Entry
	for i := range api.MaxEntries + 5 {
		l = append(l, file(fmt.Sprintf("f%03d", i), 0644, ""))
	}
	checkTree(t, l[:api.MaxEntries])
	checkNoTree(t, l[:api.MaxEntries+1], api.MaxEntries)
	checkNoTree(t, l, api.MaxEntries)
	l[7].Mode = -1
	checkNoTree(t, l, 7)
}

func TestP4Order(t *testing.T) {
	rising := []string{"-", ".a", "0", "A", "_", "a", "a/-", "a/b", "a/b/c", "a/b-", "a-", "a-b", "a.b", "a0", "ab", "b"}
	var l []api.Entry
	for _, path := range rising {
		l = append(l, dir(path, 0755))
	}
	checkTree(t, l)
	for i := 1; i < len(l); i++ {
		twice := slices.Insert(slices.Clone(l), i, l[i-1])
		checkNoTree(t, twice, i)
	}
	// Names without directories, of which each two stand in the order of their bytes alone.
	flat := []string{"-", ".a", "0", "A", "_", "a", "a-", "a-b", "a.b", "a0", "ab", "b"}
	for i, a := range flat {
		for j, b := range flat {
			if i < j {
				checkTree(t, []api.Entry{dir(a, 0), dir(b, 0)})
			} else {
				checkNoTree(t, []api.Entry{dir(a, 0), dir(b, 0)}, 1)
			}
		}
	}
}

// Elements are compared, not texts: a text with `-` stands ahead of one with `/`, a path does not.
func TestP4OrderByElements(t *testing.T) {
	checkTree(t, []api.Entry{dir("a", 0), dir("a/z", 0), dir("a-b", 0)})
	checkNoTree(t, []api.Entry{dir("a", 0), dir("a-b", 0), dir("a/z", 0)}, 2)
	checkNoTree(t, []api.Entry{dir("a", 0), dir("a/b", 0), dir("a/b/z", 0), dir("a/b-", 0), dir("a/b/zz", 0)}, 4)
}

func TestP4Directories(t *testing.T) {
	checkNoTree(t, []api.Entry{file("a/b", 0, "")}, 0)
	checkNoTree(t, []api.Entry{file("a/b", 0, ""), dir("a", 0)}, 0)
	checkNoTree(t, []api.Entry{file("a", 0, ""), file("a/b", 0, "")}, 1)
	checkNoTree(t, []api.Entry{link("a", "b"), file("a/b", 0, "")}, 1)
	checkNoTree(t, []api.Entry{dir("a", 0), dir("a/b/c", 0)}, 1)
	checkNoTree(t, []api.Entry{dir("a", 0), file("a/b", 0, ""), dir("a/b/c", 0)}, 2)
	checkNoTree(t, []api.Entry{dir("a", 0), dir("b", 0), dir("c/d", 0)}, 2)
	// A directory that only begins like the one that is asked for is another one.
	checkNoTree(t, []api.Entry{dir("a", 0), file("ab/c", 0, "")}, 1)
}

// The place is the first one, whatever is wrong behind it.
func TestP4FirstPlace(t *testing.T) {
	checkNoTree(t, []api.Entry{dir("a", 0), link("b", ""), dir("a", -1), {}}, 1)
	checkNoTree(t, []api.Entry{dir("b", 0), dir("a", 0), {Kind: 9}}, 1)
}

func TestP1NoPanic(t *testing.T) {
	texts := []string{"", "/", "//", ".", "..", "../", "\x00", "\xff\xfe", "é", strings.Repeat("/", 1<<16), strings.Repeat("../", 1<<16), strings.Repeat("a/", 1<<16), strings.Repeat("a", 1<<20)}
	numbers := []int{math.MinInt, -1, 0, 1, 2, 3, 4, 5, 6, api.MaxMode, api.MaxMode + 1, math.MaxInt}
	for _, a := range texts {
		for _, b := range texts {
			if got, err := layers.Resolve(a, b); err != nil && got != "" {
				t.Errorf("P1: Resolve(%.9q, %.9q): %q beside an error", a, b, got)
			}
		}
		for _, kind := range numbers {
			for _, mode := range numbers {
				l := []api.Entry{{Path: a, Kind: kind, Mode: mode, Data: a}, {Path: "a", Kind: kind, Mode: mode, Data: a}}
				if got, err := layers.Sum(l); err != nil && got != "" {
					t.Errorf("P1: Sum of %.9q, %d, %d: %q beside an error", a, kind, mode, got)
				}
			}
		}
	}
	checkNoTree(t, make([]api.Entry, 1<<16), 0)
}

// What is handed in stays as it is, behind its end too.
func TestP2NothingWritten(t *testing.T) {
	room := []api.Entry{dir("a", 0755), file("a/b", 0644, "b"), link("c", "a"), file("spare", 0, "room"), {}}
	kept := slices.Clone(room)
	for n := range len(room) {
		layers.Sum(room[:n])
		if !slices.Equal(room, kept) {
			t.Fatalf("P2: Sum of %d entries changed what was handed in: %v", n, room)
		}
	}
}

// The same arguments have the same answer, whatever was asked between, and whatever became of the memory.
func TestP2AnswersHangOnArguments(t *testing.T) {
	l := []api.Entry{dir("a", 0755), file("a/b", 0644, "b"), file("a/c", 0644, "c"), link("c", "a")}
	first, _ := layers.Sum(l)
	other := slices.Clone(l)
	l[1].Data = "x"
	changed, _ := layers.Sum(l)
	layers.Sum([]api.Entry{{}})
	layers.Resolve("a", "../..")
	if again, _ := layers.Sum(other); again != first || changed == first {
		t.Errorf("P2: %q, then %q, with another datum %q", first, again, changed)
	}
	for range 100 {
		if again, _ := layers.Sum(other); again != first {
			t.Fatalf("P2: %q, then %q", first, again)
		}
		checkResolve(t, "a/b", "../c", "a/c")
		checkResolve(t, "", "c", "c")
	}
}

// Package plain tells the same, in plain data.
func TestP2ResolveSharesNothing(t *testing.T) {
	work, path := strings.Repeat("w", 9), strings.Repeat("p", 9)
	for _, x := range [][2]string{{"", path}, {work, ""}, {work, path}, {"", "/" + path}} {
		got, err := layers.Resolve(x[0], x[1])
		if err != nil || isPieceOf(got, x[0]) || isPieceOf(got, x[1]) {
			t.Errorf("P2: Resolve(%q, %q): %q, %v: a piece of what was handed in", x[0], x[1], got, err)
		}
	}
}

func TestPlain(t *testing.T) {
	if p, e, at := plain.Resolve("a/b", "../c"); p != "a/c" || e != api.OK || at != -1 {
		t.Errorf("P3: %q, %d, %d", p, e, at)
	}
	if p, e, at := plain.Resolve("a", "../.."); p != "" || e != api.ErrPath || at != -1 {
		t.Errorf("P3: %q, %d, %d", p, e, at)
	}
	if s, e, at := plain.Sum(nil); s != digest("dir 755\n") || e != api.OK || at != -1 {
		t.Errorf("P4: %q, %d, %d", s, e, at)
	}
	if s, e, at := plain.Sum([]api.Entry{dir("a", 0), dir("a", 0)}); s != "" || e != api.ErrTree || at != 1 {
		t.Errorf("P4: %q, %d, %d", s, e, at)
	}
}
