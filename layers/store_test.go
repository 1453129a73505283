package layers_test

import (
	"fmt"
	"math"
	"slices"
	"strings"
	"testing"

	"layers/api"
	"layers/layers"
	"layers/plain"
)

// blob: the file of a blob, as Put keeps it.
func blob(data string) api.Blob {
	return api.Blob{Name: "b/" + digest(data), Data: data}
}

// called: a file under the digest of a text, whatever its bytes are.
func called(letter, text, data string) api.Blob {
	return api.Blob{Name: letter + "/" + digest(text), Data: data}
}

// kept: the acts by which bytes are kept under a name.
func kept(f api.Blob) []api.Act {
	before := "t" + f.Name[1:]
	return []api.Act{
		{What: api.Write, Name: before, Data: f.Data},
		{What: api.Sync, Name: before},
		{What: api.Rename, Name: before, To: f.Name},
		{What: api.SyncDir},
	}
}

func removed(f api.Blob) api.Act {
	return api.Act{What: api.Remove, Name: f.Name}
}

// rising: files by rising names.
func rising(l ...api.Blob) []api.Blob {
	l = slices.Clone(l)
	slices.SortFunc(l, func(a, b api.Blob) int { return strings.Compare(a.Name, b.Name) })
	return l
}

// opened: a store of files, whose first acts are told already.
func opened(t *testing.T, quota int, files ...api.Blob) *layers.Store {
	t.Helper()
	s, err := layers.New(files, quota)
	if err != nil || s == nil {
		t.Fatalf("P13: New of %d files, %d: %v, %v", len(files), quota, s, err)
	}
	s.Acts()
	return s
}

func checkNoStore(t *testing.T, files []api.Blob, quota int, number api.Errno, place int) {
	t.Helper()
	if s, err := layers.New(files, quota); s != nil || !isAt(err, number, place) {
		t.Errorf("P13: New(%.200q, %d): %v, %v; want %v at %d", files, quota, s, err, number, place)
	}
}

// actsTold: the first acts as a short text.
func actsTold(l []api.Act) string {
	s := ""
	for _, a := range l[:min(len(l), 20)] {
		s += fmt.Sprintf(" %d %.8q %.8q %.20q,", a.What, a.Name, a.To, a.Data)
	}
	return s
}

func checkActs(t *testing.T, s *layers.Store, want ...api.Act) {
	t.Helper()
	if got := s.Acts(); !slices.Equal(got, want) {
		t.Errorf("P13: Acts:%s; want%s", actsTold(got), actsTold(want))
	}
}

func checkFiles(t *testing.T, s *layers.Store, want ...api.Blob) {
	t.Helper()
	if got := s.Files(); !slices.Equal(got, rising(want...)) {
		t.Errorf("P13: Files: %.300q; want %.300q", got, want)
	}
}

// checkPut: the data is put, with these acts.
func checkPut(t *testing.T, s *layers.Store, data string, want ...api.Act) {
	t.Helper()
	if d, err := s.Put(data); err != nil || d != digest(data) {
		t.Errorf("P14: Put(%.40q): %q, %v", data, d, err)
	}
	checkActs(t, s, want...)
}

// checkFull: there is no room for the data, and nothing is done.
func checkFull(t *testing.T, s *layers.Store, data string) {
	t.Helper()
	before := s.Files()
	if d, err := s.Put(data); d != "" || !isAt(err, api.ErrFull, -1) {
		t.Errorf("P14: Put(%.40q): %q, %v; want ErrFull", data, d, err)
	}
	checkActs(t, s)
	checkFiles(t, s, before...)
}

func checkGet(t *testing.T, s *layers.Store, sum, want string) {
	t.Helper()
	if got, err := s.Get(sum); err != nil || got != want {
		t.Errorf("P14: Get(%q): %.40q, %v; want %.40q", sum, got, err, want)
	}
	checkActs(t, s)
}

func checkNoGet(t *testing.T, s *layers.Store, sum string) {
	t.Helper()
	if got, err := s.Get(sum); got != "" || !isAt(err, api.ErrNone, -1) {
		t.Errorf("P14: Get(%.80q): %.40q, %v; want ErrNone", sum, got, err)
	}
	checkActs(t, s)
}

func checkDrop(t *testing.T, s *layers.Store, f api.Blob) {
	t.Helper()
	if err := s.Drop(f.Name); err != nil {
		t.Errorf("P14: Drop(%q): %v", f.Name, err)
	}
	checkActs(t, s, removed(f))
}

func checkNoDrop(t *testing.T, s *layers.Store, name string) {
	t.Helper()
	if err := s.Drop(name); !isAt(err, api.ErrNone, -1) {
		t.Errorf("P14: Drop(%.80q): %v; want ErrNone", name, err)
	}
	checkActs(t, s)
}

func TestP13New(t *testing.T) {
	s := opened(t, 0)
	checkFiles(t, s)
	checkActs(t, s)
	l := []api.Blob{called("c", "z", "1"), blob("y"), called("b", "x", "\x00\xff\n"), called("c", "y", ""), blob("")}
	s = opened(t, 100, l...)
	checkFiles(t, s, l...)
	checkActs(t, s)
}

// What a name is hangs on each byte of it.
func TestP13NameBytes(t *testing.T) {
	good := called("b", "a", "").Name
	for i := range good {
		for c := range 256 {
			name := good[:i] + string([]byte{byte(c)}) + good[i+1:]
			may := "0123456789abcdef"
			switch i {
			case 0:
				may = "bct"
			case 1:
				may = "/"
			}
			if strings.IndexByte(may, byte(c)) < 0 {
				checkNoStore(t, []api.Blob{{Name: name}}, 0, api.ErrFiles, 0)
			} else if _, err := layers.New([]api.Blob{{Name: name}}, 0); err != nil {
				t.Errorf("P13: New of %q: %v", name, err)
			}
		}
	}
}

func TestP13NoNames(t *testing.T) {
	sum := digest("a")
	for _, name := range []string{
		"", "b", "b/", "/", sum, "/" + sum, "b" + sum, "b//" + sum, " b/" + sum, "b/" + sum + "\n", "b/" + sum + "0", "b/" + sum[1:], "b/" + sum[1:] + " ",
		"bc/" + sum, "bb/" + sum[1:], "b/b/" + sum[2:], "./" + sum, "b/" + strings.ToUpper(sum), "B/" + sum, "b/" + strings.Repeat("é", 32), "b/" + strings.Repeat("0", 1<<20),
	} {
		for _, letter := range []string{"b", "c", "t"} {
			wrong := api.Blob{Name: name}
			if strings.HasPrefix(name, "b") {
				wrong.Name = letter + name[1:]
			}
			good := called(letter, "b", "")
			checkNoStore(t, []api.Blob{wrong}, 0, api.ErrFiles, 0)
			checkNoStore(t, []api.Blob{good, wrong, wrong}, 0, api.ErrFiles, 1)
			checkNoStore(t, []api.Blob{good, called("b", "c", ""), wrong, good}, -1, api.ErrFiles, 2)
		}
	}
}

func TestP13Twice(t *testing.T) {
	for _, letter := range []string{"b", "c", "t"} {
		f, g, h := called(letter, "f", "f"), called(letter, "g", "g"), called(letter, "f", "h")
		checkNoStore(t, []api.Blob{f, f}, 9, api.ErrFiles, 1)
		checkNoStore(t, []api.Blob{f, h}, 9, api.ErrFiles, 1)
		checkNoStore(t, []api.Blob{f, g, h, g, {}}, 9, api.ErrFiles, 2)
		checkNoStore(t, []api.Blob{g, f, {}, f}, 9, api.ErrFiles, 2)
	}
	l := []api.Blob{called("b", "f", ""), called("c", "f", ""), called("t", "f", "")}
	checkFiles(t, opened(t, 0, l...), l[:2]...)
}

func TestP13Quota(t *testing.T) {
	for _, n := range []int{-1, api.MaxQuota + 1, math.MinInt, math.MaxInt, -api.MaxQuota, 1 << 32} {
		checkNoStore(t, nil, n, api.ErrBound, -1)
		checkNoStore(t, []api.Blob{blob("a"), called("t", "", "")}, n, api.ErrBound, -1)
		checkNoStore(t, []api.Blob{blob("a"), blob("a")}, n, api.ErrFiles, 1)
	}
	for _, n := range []int{0, 1, api.MaxQuota - 1, api.MaxQuota} {
		opened(t, n)
		// There may be more bytes than that from the beginning.
		checkFiles(t, opened(t, n, blob("abc")), blob("abc"))
	}
}

func TestP13Passing(t *testing.T) {
	var l, want []api.Blob
	for i := range 40 {
		l = append(l, called("t", fmt.Sprint(i), "some bytes"))
	}
	want = rising(l...)
	l = slices.Concat(l[:20], []api.Blob{blob("a"), called("c", "0", "c")}, l[20:])
	s, err := layers.New(l, 2)
	if err != nil {
		t.Fatal(err)
	}
	checkFiles(t, s, blob("a"), called("c", "0", "c"))
	var acts []api.Act
	for _, f := range want {
		acts = append(acts, removed(f))
	}
	checkActs(t, s, acts...)
	checkActs(t, s)
	// What is removed takes no room.
	checkPut(t, s, "", kept(blob(""))...)
	checkNoDrop(t, s, want[0].Name)
}

func TestP13ActsAreToldOnce(t *testing.T) {
	s, err := layers.New([]api.Blob{called("t", "a", "a"), blob("b")}, 10)
	if err != nil {
		t.Fatal(err)
	}
	s.Files()
	s.Put("c")
	s.Put("b")
	s.Get(digest("b"))
	s.Get("none")
	s.Drop(blob("b").Name)
	s.Drop(blob("b").Name)
	s.Put(strings.Repeat("x", 10))
	s.Put("")
	want := slices.Concat([]api.Act{removed(called("t", "a", ""))}, kept(blob("c")), []api.Act{removed(blob("b"))}, kept(blob("")))
	checkActs(t, s, want...)
	checkActs(t, s)
	checkPut(t, s, "b", kept(blob("b"))...)
	checkActs(t, s)
}

// The room is that of all other files, of whatever kind.
func TestP13Room(t *testing.T) {
	s := opened(t, 10, blob("123"), called("c", "a", "45"), called("t", "b", "012345678"))
	checkFull(t, s, "abcdef")
	checkPut(t, s, "abcde", kept(blob("abcde"))...)
	checkFull(t, s, "x")
	checkPut(t, s, "", kept(blob(""))...)
	checkDrop(t, s, called("c", "a", "45"))
	checkFull(t, s, "xyz")
	checkPut(t, s, "xy", kept(blob("xy"))...)
	checkFull(t, s, "z")
	checkFiles(t, s, blob("123"), blob("abcde"), blob(""), blob("xy"))
	whole := strings.Repeat("q", api.MaxQuota)
	s = opened(t, api.MaxQuota)
	checkFull(t, s, whole+"q")
	checkPut(t, s, whole, kept(blob(whole))...)
	checkFull(t, s, "q")
	// Of a store that has more than it may, nothing is kept, not even no bytes, but what is there is found.
	s = opened(t, 2, blob("123"))
	checkFull(t, s, "")
	checkFull(t, s, "1")
	checkPut(t, s, "123")
	checkDrop(t, s, blob("123"))
	checkPut(t, s, "12", kept(blob("12"))...)
}

// What stands under the name itself does not count: it goes.
func TestP13RoomOfTheFileItself(t *testing.T) {
	wrong := called("b", "right", "0123456789")
	s := opened(t, 5, wrong)
	checkFull(t, s, "other")
	checkPut(t, s, "right", kept(blob("right"))...)
	checkFiles(t, s, blob("right"))
	// The cache's file of that digest is another one.
	s = opened(t, 5, called("c", "right", "0"), wrong)
	checkFull(t, s, "right")
	s = opened(t, 6, called("c", "right", "0"), wrong)
	checkPut(t, s, "right", kept(blob("right"))...)
	checkFiles(t, s, blob("right"), called("c", "right", "0"))
}

func TestP14PutAndGet(t *testing.T) {
	s := opened(t, api.MaxQuota)
	texts := []string{"abc", "", "\x00", "\xff\xfe", "a\n", strings.Repeat("a", 63), strings.Repeat("a", 64), strings.Repeat("b", 100000), digest("abc"), "b/" + digest("abc")}
	var want []api.Blob
	for _, data := range texts {
		checkNoGet(t, s, digest(data))
		checkPut(t, s, data, kept(blob(data))...)
		checkPut(t, s, data)
		want = append(want, blob(data))
		checkFiles(t, s, want...)
	}
	for _, data := range texts {
		checkGet(t, s, digest(data), data)
	}
	if d, err := s.Put("abc"); d != "ba7816bf8f01cfea414140de5dae2223b00361a396177a9cb410ff61f20015ad" || err != nil {
		t.Errorf("P14: Put(abc): %q, %v", d, err)
	}
}

// A file of which the bytes are not what its name says is as none, for Put and Get, but it is a file.
func TestP14OtherBytes(t *testing.T) {
	for _, data := range []string{"", "y", "x\n", "X", strings.Repeat("x", 1000)} {
		wrong := called("b", "x", data)
		s := opened(t, 2000, wrong)
		checkNoGet(t, s, digest("x"))
		checkFiles(t, s, wrong)
		checkPut(t, s, "x", kept(blob("x"))...)
		checkFiles(t, s, blob("x"))
		checkGet(t, s, digest("x"), "x")
		checkPut(t, s, "x")
		s = opened(t, 2000, wrong)
		checkDrop(t, s, wrong)
		checkFiles(t, s)
	}
	// Without room the wrong bytes stay.
	s := opened(t, 3, called("b", "x", "y"), blob("123"))
	checkFull(t, s, "x")
	checkNoGet(t, s, digest("x"))
}

func TestP14NoGet(t *testing.T) {
	sum := digest("abc")
	s := opened(t, 100, blob("abc"), called("c", "d", "d"), called("c", "abc", "abc"))
	for _, text := range []string{
		"", "abc", "b/" + sum, "/" + sum, sum[1:], sum + "0", sum + "\n", strings.ToUpper(sum), digest("d"), "c/" + digest("d"), "../c/" + digest("d"), "\x00", strings.Repeat("a", 1<<20),
	} {
		checkNoGet(t, s, text)
	}
	checkGet(t, s, sum, "abc")
	checkDrop(t, s, blob("abc"))
	checkNoGet(t, s, sum)
}

func TestP14Drop(t *testing.T) {
	l := []api.Blob{blob("a"), blob("b"), called("c", "a", "a"), called("b", "wrong", "a"), called("c", "b", "")}
	s := opened(t, 100, l...)
	for _, name := range []string{"", "a", "b/", digest("a"), "c/" + digest("wrong"), "t/" + digest("a"), "B/" + digest("a"), "b/" + digest("a") + "0", "\x00", strings.Repeat("b/", 1<<20)} {
		checkNoDrop(t, s, name)
	}
	for i, f := range l {
		checkFiles(t, s, l[i:]...)
		checkDrop(t, s, f)
		checkNoDrop(t, s, f.Name)
	}
	checkFiles(t, s)
	checkPut(t, s, "a", kept(blob("a"))...)
	checkDrop(t, s, blob("a"))
}

// A file that was put is there, whatever is put, dropped, refused or asked for behind it.
func TestP15StaysThere(t *testing.T) {
	s := opened(t, 40)
	checkPut(t, s, "stays", kept(blob("stays"))...)
	for i := range 200 {
		s.Put(strings.Repeat("x", i%50))
		s.Put(fmt.Sprint(i))
		s.Drop(blob(fmt.Sprint(i - 1)).Name)
		s.Drop("c" + blob("stays").Name[1:])
		s.Drop("t" + blob("stays").Name[1:])
		s.Get(fmt.Sprint(i))
		if got, err := s.Get(digest("stays")); err != nil || got != "stays" {
			t.Fatalf("P15: after %d: %q, %v", i, got, err)
		}
		again := opened(t, 0, s.Files()...)
		checkGet(t, again, digest("stays"), "stays")
	}
	s.Acts()
	checkFull(t, s, strings.Repeat("y", 40))
	checkDrop(t, s, blob("stays"))
	checkNoGet(t, s, digest("stays"))
}

// Errors have no place but that of New's files, and nothing beside them.
func TestP1Stores(t *testing.T) {
	texts := []string{"", "/", "b/", "t/", "\x00", "\xff", digest(""), "b/" + digest(""), strings.Repeat("b/", 33), strings.Repeat("a", 1<<20)}
	numbers := []int{math.MinInt, -1, 0, 1, api.MaxQuota, api.MaxQuota + 1, math.MaxInt}
	for _, a := range texts {
		for _, b := range texts {
			for _, n := range numbers {
				s, err := layers.New([]api.Blob{{Name: a, Data: b}, blob("x")}, n)
				if (s == nil) != (err != nil) {
					t.Errorf("P1: New: %v beside %v", s, err)
				}
				if s == nil {
					continue
				}
				for _, c := range texts {
					if d, err := s.Put(c); (d == "") != (err != nil) {
						t.Errorf("P1: Put: %q beside %v", d, err)
					}
					if d, err := s.Get(c); err != nil && d != "" {
						t.Errorf("P1: Get: %q beside %v", d, err)
					}
					s.Drop(c)
				}
			}
		}
	}
	checkNoStore(t, make([]api.Blob, 1<<16), 0, api.ErrFiles, 0)
}

// A store of many files answers as one of few.
func TestP1ManyFiles(t *testing.T) {
	var l []api.Blob
	for i := range 20000 {
		l = append(l, called([]string{"b", "c", "t"}[i%3], fmt.Sprint(i), ""))
	}
	s, err := layers.New(l, 1)
	if err != nil || len(s.Files()) != 13334 || len(s.Acts()) != 6666 {
		t.Fatalf("P13: New of %d files: %v", len(l), err)
	}
	checkNoStore(t, append(l, l[10000]), 1, api.ErrFiles, 20000)
	for i := range 2 {
		checkPut(t, s, "x"[i:], kept(blob("x"[i:]))...)
	}
}

// What is handed in stays as it is, behind its end too, and is not kept.
func TestP2StoresKeepNothing(t *testing.T) {
	l := []api.Blob{called("t", "a", "a"), blob("b"), called("c", "c", "c"), blob("spare"), {}}
	before := slices.Clone(l)
	s := opened(t, 100, l[:3]...)
	s.Put("d")
	s.Drop(blob("b").Name)
	if !slices.Equal(l, before) {
		t.Fatalf("P2: changed what was handed in: %v", l)
	}
	overwrite(l, api.Blob{Name: "x", Data: "y"})
	checkFiles(t, s, called("c", "c", "c"), blob("d"))
}

// What comes out is the asker's own: the store has nothing of it any more.
func TestP2StoresListsAreNew(t *testing.T) {
	s := opened(t, 100, blob("a"), called("c", "c", "c"))
	s.Put("d")
	for range 3 {
		overwrite(s.Files(), api.Blob{Name: "x", Data: "y"})
		checkFiles(t, s, blob("a"), called("c", "c", "c"), blob("d"))
	}
	told := s.Acts()
	s.Put("e")
	overwrite(told, api.Act{What: 9})
	told = s.Acts()
	if !slices.Equal(told, kept(blob("e"))) {
		t.Errorf("P2: Acts:%s", actsTold(told))
	}
	s.Put("f")
	s.Drop(blob("f").Name)
	if !slices.Equal(told, kept(blob("e"))) {
		t.Errorf("P2: what was told has changed:%s", actsTold(told))
	}
	overwrite(told, api.Act{What: 9})
	checkActs(t, s, append(kept(blob("f")), removed(blob("f")))...)
}

// No text that comes out is one that was handed in, or that came out before.
func TestP2StoresShareNothing(t *testing.T) {
	l := []api.Blob{blob("some bytes"), called("c", "c", "other bytes"), called("t", "t", "bytes of a time")}
	data, name := strings.Repeat("data", 2), strings.Clone(l[1].Name)
	in := []string{data, name}
	for _, f := range l {
		in = append(in, f.Name, f.Data)
	}
	s, err := layers.New(l, 100)
	if err != nil {
		t.Fatal(err)
	}
	out := func(texts ...string) {
		t.Helper()
		checkShares(t, in, texts...)
		in = append(in, texts...)
	}
	for range 2 {
		sum, err := s.Put(data)
		if err != nil {
			t.Fatal(err)
		}
		out(sum)
		for range 2 {
			got, err := s.Get(sum)
			if err != nil {
				t.Fatal(err)
			}
			out(got)
		}
		for _, f := range s.Files() {
			out(f.Name, f.Data)
		}
		s.Drop(name)
		for _, a := range s.Acts() {
			out(a.Name, a.To, a.Data)
		}
		s.Drop(in[2])
	}
}

// Two stores of the same files have nothing in common.
func TestP2StoresAreApart(t *testing.T) {
	l := []api.Blob{blob("a"), called("t", "b", "b")}
	one, two := opened(t, 10, l...), opened(t, 5, l...)
	checkPut(t, one, "123456", kept(blob("123456"))...)
	checkActs(t, two)
	checkFull(t, two, "123456")
	checkDrop(t, two, blob("a"))
	checkGet(t, one, digest("a"), "a")
	three := opened(t, 10, one.Files()...)
	checkDrop(t, three, blob("a"))
	checkFiles(t, one, blob("a"), blob("123456"))
	checkFiles(t, two)
	checkFiles(t, three, blob("123456"))
}

func TestPlainStores(t *testing.T) {
	if s, e, at := plain.New([]api.Blob{blob("a"), {Name: "b/a"}}, 0); s != nil || e != api.ErrFiles || at != 1 {
		t.Errorf("P13: %v, %d, %d", s, e, at)
	}
	if s, e, at := plain.New([]api.Blob{blob("a")}, -1); s != nil || e != api.ErrBound || at != -1 {
		t.Errorf("P13: %v, %d, %d", s, e, at)
	}
	s, e, at := plain.New([]api.Blob{blob("a")}, 2)
	if s == nil || e != api.OK || at != -1 {
		t.Fatalf("P13: %v, %d, %d", s, e, at)
	}
	if d, e := plain.Put(s, "b"); d != digest("b") || e != api.OK {
		t.Errorf("P14: %q, %d", d, e)
	}
	if d, e := plain.Put(s, "c"); d != "" || e != api.ErrFull {
		t.Errorf("P14: %q, %d", d, e)
	}
	if d, e := plain.Get(s, digest("b")); d != "b" || e != api.OK {
		t.Errorf("P14: %q, %d", d, e)
	}
	if d, e := plain.Get(s, digest("c")); d != "" || e != api.ErrNone {
		t.Errorf("P14: %q, %d", d, e)
	}
	if e := plain.Drop(s, blob("b").Name); e != api.OK {
		t.Errorf("P14: %d", e)
	}
	if e := plain.Drop(s, blob("b").Name); e != api.ErrNone {
		t.Errorf("P14: %d", e)
	}
}
