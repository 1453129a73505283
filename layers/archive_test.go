package layers_test

import (
	"archive/tar"
	"fmt"
	"io"
	"math"
	"slices"
	"strings"
	"testing"
	"unsafe"

	"layers/api"
	"layers/layers"
	"layers/plain"
)

// brief: some changes, for a remark.
func brief(l []api.Change) string {
	var b strings.Builder
	for _, c := range l {
		fmt.Fprintf(&b, "{%.60q %d %o %.9q}", c.Path, c.Kind, c.Mode, c.Data)
	}
	return fmt.Sprintf("%.400s", b.String())
}

// shown: the size and the first name of an archive, for a remark.
func shown(s string) string {
	name, _, _ := strings.Cut(s, "\x00")
	return fmt.Sprintf("%d bytes, %.100q ..", len(s), name)
}

func checkPack(t *testing.T, l []api.Change, want string) {
	t.Helper()
	if got, err := layers.Pack(l); err != nil || got != want {
		t.Errorf("P7: Pack(%s): %d bytes, %v; want %d bytes, which differ at %d", brief(l), len(got), err, len(want), differAt(got, want))
	}
}

// differAt: the first byte in which two texts differ.
func differAt(a, b string) int {
	i := 0
	for i < len(a) && i < len(b) && a[i] == b[i] {
		i++
	}
	return i
}

func checkNoPack(t *testing.T, place int, l ...api.Change) {
	t.Helper()
	if got, err := layers.Pack(l); got != "" || !isAt(err, api.ErrChange, place) {
		t.Errorf("P7: Pack(%s): %d bytes, %v; want ErrChange at %d", brief(l), len(got), err, place)
	}
}

func checkUnpack(t *testing.T, s string, want ...api.Change) {
	t.Helper()
	if got, err := layers.Unpack(s); err != nil || !slices.Equal(got, want) {
		t.Errorf("P8: Unpack(%s): %s, %v; want %s", shown(s), brief(got), err, brief(want))
	}
}

func checkNoUnpack(t *testing.T, s string, place int) {
	t.Helper()
	if got, err := layers.Unpack(s); got != nil || !isAt(err, api.ErrTar, place) {
		t.Errorf("P8: Unpack(%s): %s, %v; want ErrTar at %d", shown(s), brief(got), err, place)
	}
}

// checkBoth: Pack tells this archive, and Unpack of it the changes.
func checkBoth(t *testing.T, s string, l ...api.Change) {
	t.Helper()
	checkPack(t, l, s)
	checkUnpack(t, s, l...)
}

// packed: an archive of what are changes.
func packed(t *testing.T, l ...api.Change) string {
	t.Helper()
	s, err := layers.Pack(l)
	if err != nil {
		t.Fatalf("P7: Pack(%s): %v", brief(l), err)
	}
	return s
}

// someOfAll: changes of all kinds, with data that fills no block, just one, and more.
func someOfAll() []api.Change {
	return []api.Change{
		cleared(""), put(dir("a", 0755)), cleared("a"), put(file("a/f", 0644, "hi")), gone("a/g"), put(link("a-b", "a/f")),
		put(file("b", 0, "")), put(file("c", 0777, strings.Repeat("c", 512))), put(file("d", 1, strings.Repeat("d", 513))), gone("e"),
	}
}

func TestP7Examples(t *testing.T) {
	s := packed(t, gone("a"))
	if len(s) != 1536 || !strings.HasPrefix(s, ".wh.a\x00") {
		t.Errorf("P7: %d bytes, %q", len(s), s[:10])
	}
	checkBoth(t, noughts(1024))
}

// A whole block of each kind, byte by byte.
func TestP7Block(t *testing.T) {
	const zero, zeros = "0000000\x00", "00000000000\x00"
	for _, x := range []struct {
		c                             api.Change
		name, mode, size, check, kind string
		link, data                    string
	}{
		{put(dir("etc", 0755)), "etc/", "0000755\x00", zeros, "007760\x00 ", "5", "", ""},
		{put(file("etc/x", 0640, "hi\n")), "etc/x", "0000640\x00", "00000000003\x00", "010137\x00 ", "0", "", "hi\n"},
		{put(link("l", "../x")), "l", zero, zeros, "007740\x00 ", "2", "../x", ""},
		{gone("a/b"), "a/.wh.b", zero, zeros, "010234\x00 ", "0", "", ""},
		{cleared("a"), "a/.wh..wh..opq", zero, zeros, "011363\x00 ", "0", "", ""},
	} {
		want := room(x.name, 100) + x.mode + zero + zero + x.size + zeros + x.check + x.kind + room(x.link, 100) + "ustar\x0000" + noughts(64) + zero + zero + noughts(155) + noughts(12)
		if len(want) != 512 {
			t.Fatal(len(want))
		}
		if x.data != "" {
			want += room(x.data, 512)
		}
		checkBoth(t, want+noughts(1024), x.c)
	}
}

// What stands where, by the numbers of the document.
func TestP7Fields(t *testing.T) {
	long := strings.Repeat("n", 60)
	s := packed(t, put(file(long+"/"+long, 0751, strings.Repeat("x", 1000))))
	for _, f := range []struct {
		begin, size int
		want        string
	}{
		{0, 100, long}, {100, 8, "0000751"}, {108, 8, "0000000"}, {116, 8, "0000000"}, {124, 12, "00000001750"}, {136, 12, "00000000000"},
		{156, 1, "0"}, {157, 100, ""}, {257, 8, "ustar\x0000"}, {265, 64, ""}, {329, 8, "0000000"}, {337, 8, "0000000"}, {345, 155, long}, {500, 12, ""},
	} {
		if got := s[f.begin : f.begin+f.size]; got != room(f.want, f.size) {
			t.Errorf("P7: at %d: %q; want %q", f.begin, got, f.want)
		}
	}
}

func TestP7Names(t *testing.T) {
	for _, x := range []struct {
		c    api.Change
		name string
	}{
		{put(file("f", 0, "")), "f"}, {put(file("a/f", 0, "")), "a/f"}, {put(link("a/l", "x")), "a/l"},
		{put(dir("d", 0)), "d/"}, {put(dir("a/d", 0)), "a/d/"},
		{gone("g"), ".wh.g"}, {gone("a/g"), "a/.wh.g"}, {gone("a/b/g"), "a/b/.wh.g"}, {gone(".wh"), ".wh..wh"}, {gone("..."), ".wh...."},
		{cleared(""), ".wh..wh..opq"}, {cleared("c"), "c/.wh..wh..opq"}, {cleared("a/c"), "a/c/.wh..wh..opq"},
	} {
		s := packed(t, x.c)
		if got := s[:100]; got != room(x.name, 100) {
			t.Errorf("P7: the name of %v: %q; want %q", x.c, got, x.name)
		}
		checkUnpack(t, s, x.c)
	}
}

// A name is parted just if it has more than 100 bytes, at the first slash behind which there are at most 100.
func TestP7LongNames(t *testing.T) {
	n := func(k int) string { return strings.Repeat("n", k) }
	for _, x := range []struct {
		c           api.Change
		ahead, name string
	}{
		{put(file(n(49)+"/"+n(50), 0, "")), "", n(49) + "/" + n(50)},
		{put(file(n(50)+"/"+n(50), 0, "")), n(50), n(50)},
		{put(link(n(50)+"/"+n(50), "x")), n(50), n(50)},
		{put(file("a/"+n(49)+"/"+n(50), 0, "")), "a", n(49) + "/" + n(50)},
		{put(file("a/b/"+n(49)+"/"+n(50), 0, "")), "a/b", n(49) + "/" + n(50)},
		{put(file("a/b/"+n(50)+"/"+n(50), 0, "")), "a/b/" + n(50), n(50)},
		{put(file("a/"+n(50)+"/"+n(50), 0, "")), "a/" + n(50), n(50)},
		{put(dir(n(49)+"/"+n(49), 0)), "", n(49) + "/" + n(49) + "/"},
		{put(dir(n(49)+"/"+n(50), 0)), n(49), n(50) + "/"},
		{put(dir("a/"+n(49)+"/"+n(49), 0)), "a", n(49) + "/" + n(49) + "/"},
		{put(dir("a/"+n(49)+"/"+n(50), 0)), "a/" + n(49), n(50) + "/"},
		{gone(n(49) + "/" + n(46)), "", n(49) + "/.wh." + n(46)},
		{gone(n(49) + "/" + n(47)), n(49), ".wh." + n(47)},
		{gone("a/" + n(49) + "/" + n(46)), "a", n(49) + "/.wh." + n(46)},
		{gone("a/" + n(49) + "/" + n(47)), "a/" + n(49), ".wh." + n(47)},
		{cleared(n(43) + "/" + n(43)), "", n(43) + "/" + n(43) + "/.wh..wh..opq"},
		{cleared(n(44) + "/" + n(43)), n(44), n(43) + "/.wh..wh..opq"},
		{cleared("a/" + n(43) + "/" + n(43)), "a", n(43) + "/" + n(43) + "/.wh..wh..opq"},
		{cleared("a/" + n(44) + "/" + n(43)), "a/" + n(44), n(43) + "/.wh..wh..opq"},
	} {
		s := packed(t, x.c)
		if s[:100] != room(x.name, 100) || s[345:500] != room(x.ahead, 155) {
			t.Errorf("P7: the name of %v: %q, %q; want %q, %q", x.c, s[345:500], s[:100], x.ahead, x.name)
		}
		checkBoth(t, modelPack([]api.Change{x.c}), x.c)
	}
}

// The longest paths, parted into elements in many ways, and the deepest.
func TestP7LongestNames(t *testing.T) {
	all := []string{strings.Repeat("a/", api.MaxDeep-1) + "a"}
	for i := 1; i <= api.MaxName; i++ {
		for j := api.MaxPath - 2 - i - api.MaxName; j <= api.MaxName; j++ {
			n := strings.Repeat("n", api.MaxPath)
			if j >= 1 {
				all = append(all, n[:i]+"/"+n[:j]+"/"+n[:api.MaxPath-2-i-j])
			}
		}
	}
	for _, path := range all {
		for _, c := range []api.Change{put(dir(path, 0755)), put(file(path, 0644, "x")), put(link(path, "t")), gone(path), cleared(path)} {
			checkBoth(t, modelPack([]api.Change{c}), c)
		}
	}
}

func TestP7Data(t *testing.T) {
	for _, n := range []int{0, 1, 2, 510, 511, 512, 513, 514, 1023, 1024, 1025, 4095, 4096} {
		for _, fill := range []string{"x", "\x00", "\xff", " "} {
			c := put(file("f", 0644, strings.Repeat(fill, n)))
			s := packed(t, c)
			if blocks := (n + 511) / 512; len(s) != 512*(3+blocks) || s[124:136] != fmt.Sprintf("%011o\x00", n) || s[512:] != room(c.Data, 512*(2+blocks)) {
				t.Errorf("P7: a File of %d bytes: an archive of %d", n, len(s))
			}
			checkUnpack(t, s, c)
			checkBoth(t, modelPack([]api.Change{c, gone("g")}), c, gone("g"))
		}
	}
}

func TestP7AllKinds(t *testing.T) {
	l := someOfAll()
	checkBoth(t, modelPack(l), l...)
	for i := range l {
		checkBoth(t, modelPack(l[i:]), l[i:]...)
		checkBoth(t, modelPack(l[:i]), l[:i]...)
	}
	for mode := range api.MaxMode + 1 {
		checkBoth(t, modelPack([]api.Change{put(dir("d", mode)), put(file("f", mode, "x"))}), put(dir("d", mode)), put(file("f", mode, "x")))
	}
	for n := range api.MaxLink {
		c := put(link("l", strings.Repeat("~", n+1)))
		checkBoth(t, modelPack([]api.Change{c}), c)
	}
}

func TestP7NoChanges(t *testing.T) {
	for _, c := range noChange() {
		checkNoPack(t, 0, c)
		checkNoPack(t, 1, put(dir("-", 0)), c, gone("z"))
	}
	checkNoPack(t, 1, gone("a"), gone("a"))
	checkNoPack(t, 1, gone("a"), gone("a/b"))
	checkNoPack(t, 1, cleared("a"), put(dir("a", 0)))
	checkNoPack(t, 2, put(dir("a", 0)), put(file("b", 0, "")), put(dir("b/c", 0)), gone(""))
	checkNoPack(t, 2, gone("a/b"), gone("a-b"), gone("a"))
}

// As many changes as there may be, and one more.
func TestP7P8MaxChanges(t *testing.T) {
	var l []api.Change
	for i := range api.MaxChanges + 1 {
		l = append(l, put(file(fmt.Sprintf("f%03d", i), 0644, strings.Repeat(string(rune('a'+i%26)), api.MaxFile))))
	}
	most := l[:api.MaxChanges]
	checkBoth(t, modelPack(most), most...)
	checkNoPack(t, api.MaxChanges, l...)
	checkNoUnpack(t, modelPack(l), api.MaxChanges*(512+api.MaxFile))
	s, _ := pieces(most)
	checkNoUnpack(t, s, len(s))
	checkNoUnpack(t, s+piece(gone("a")), len(s))
}

// The library reads all that is written, marks as empty files.
func TestP7Library(t *testing.T) {
	long := strings.Repeat("n", 56)
	l := append(someOfAll(), put(dir(long+"/"+long, 0700)), gone(long+"/"+long+"/a"), cleared(long+"/"+long+"/"+long))
	r := tar.NewReader(strings.NewReader(packed(t, l...)))
	for _, c := range l {
		h, err := r.Next()
		if err != nil {
			t.Fatalf("P7: the library reads %v of %v", err, c)
		}
		data, err := io.ReadAll(r)
		want := headerOf(c)
		name := strings.TrimPrefix(want.ahead+"/"+want.name, "/")
		if err != nil || h.Name != name || h.Mode != int64(c.Mode) || string(h.Typeflag) != want.kind || h.Linkname != want.link || h.Format != tar.FormatUSTAR {
			t.Errorf("P7: the library reads %+v of %v: %v", h, c, err)
		}
		if c.Kind == api.File && string(data) != c.Data || c.Kind != api.File && len(data) != 0 {
			t.Errorf("P7: the library reads %q of %v", data, c)
		}
	}
	if _, err := r.Next(); err != io.EOF {
		t.Errorf("P7: behind all entries: %v", err)
	}
}

// The end is two blocks of noughts, and nothing behind them.
func TestP8End(t *testing.T) {
	l := someOfAll()
	s, _ := pieces(l)
	for _, n := range []int{0, 1, 511, 512, 513, 1023, 1025, 1536, 2048, 10240} {
		checkNoUnpack(t, noughts(n), 0)
		checkNoUnpack(t, s+noughts(n), len(s))
	}
	checkUnpack(t, noughts(1024))
	checkUnpack(t, s+noughts(1024), l...)
	for _, more := range []string{"x", "\x00", noughts(512), noughts(1024), piece(gone("z")), s, s + noughts(1024)} {
		checkNoUnpack(t, s+noughts(1024)+more, len(s))
		checkNoUnpack(t, noughts(1024)+more, 0)
	}
	// One block of noughts is neither the end nor an entry.
	checkNoUnpack(t, noughts(512)+s+noughts(1024), 0)
	checkNoUnpack(t, s+noughts(512)+piece(gone("z"))+noughts(1024), len(s))
}

// An archive that is cut anywhere: the place is where that begins which is no more whole.
func TestP8Cut(t *testing.T) {
	s, begin := pieces(someOfAll())
	begin = append(begin, len(s)+1024)
	s += noughts(1024)
	for i := range len(begin) - 1 {
		for n := begin[i]; n < begin[i+1]; n++ {
			checkNoUnpack(t, s[:n], begin[i])
		}
	}
}

// isData: the byte is of a File's data, not of what fills it up.
func isData(c api.Change, k int) bool {
	return c.Kind == api.File && k >= 512 && k < 512+len(c.Data)
}

// checkTurned: a byte of an archive is turned: but for those of data no other byte may stand there.
func checkTurned(t *testing.T, l []api.Change, by byte) {
	t.Helper()
	s, begin := pieces(l)
	b := []byte(s + noughts(1024))
	for i := range begin {
		end := len(b)
		if i < len(l) {
			end = begin[i+1]
		}
		for k := begin[i]; k < end; k++ {
			b[k] ^= by
			if i < len(l) && isData(l[i], k-begin[i]) {
				turned := slices.Clone(l)
				turned[i].Data = string(b[begin[i]+512:][:len(l[i].Data)])
				checkUnpack(t, string(b), turned...)
			} else {
				checkNoUnpack(t, string(b), begin[i])
			}
			b[k] ^= by
		}
	}
}

func TestP8Turned(t *testing.T) {
	for bit := range 8 {
		checkTurned(t, someOfAll(), 1<<bit)
	}
	for by := 3; by < 256; by += 9 {
		checkTurned(t, []api.Change{put(file("f", 0644, "hi"))}, byte(by))
	}
	checkTurned(t, nil, 1)
}

// checkOther: no change is written like this; behind others neither.
func checkOther(t *testing.T, s string) {
	t.Helper()
	checkNoUnpack(t, s+noughts(1024), 0)
	checkNoUnpack(t, s, 0)
	ahead := piece(put(file("-", 0, "x"))) + piece(gone("--"))
	checkNoUnpack(t, ahead+s+noughts(1024), len(ahead))
	checkNoUnpack(t, ahead+s+piece(gone("z"))+noughts(1024), len(ahead))
}

// Blocks that other programs write, or read in the same way, with the right check: they are not what Pack writes.
func TestP8OtherBlocks(t *testing.T) {
	const one, ones = "0000001\x00", "00000000001\x00"
	for _, turn := range []func(h *header){
		func(h *header) { h.user = one }, func(h *header) { h.user = "" }, func(h *header) { h.user = "000000 \x00" },
		func(h *header) { h.group = one }, func(h *header) { h.group = "" }, func(h *header) { h.group = "0001750\x00" },
		func(h *header) { h.time = ones }, func(h *header) { h.time = "" }, func(h *header) { h.time = "0\x00" },
		func(h *header) { h.device = one }, func(h *header) { h.device = "" }, func(h *header) { h.device2 = one }, func(h *header) { h.device2 = "" },
		func(h *header) { h.names = "root" }, func(h *header) { h.names = noughts(63) + "x" }, func(h *header) { h.rest = "x" }, func(h *header) { h.rest = noughts(11) + " " },
		func(h *header) { h.magic = "" }, func(h *header) { h.magic = "ustar  \x00" }, func(h *header) { h.magic = "ustar\x00" }, func(h *header) { h.magic = "ustar\x0001" },
		func(h *header) { h.mode = "" }, func(h *header) { h.mode = "755\x00" }, func(h *header) { h.mode = "0000755 " }, func(h *header) { h.mode = "   0755\x00" }, func(h *header) { h.mode = "00000755" },
		func(h *header) { h.mode = "0000758\x00" }, func(h *header) { h.mode = "-000001\x00" }, func(h *header) { h.mode = "+000755\x00" }, func(h *header) { h.mode = "0000755\x01" }, func(h *header) { h.mode = "0001000\x00" }, func(h *header) { h.mode = "0100644\x00" }, func(h *header) { h.mode = "7777777\x00" }, func(h *header) { h.mode = "0_0_755\x00" }, func(h *header) { h.mode = "0o00755\x00" },
		func(h *header) { h.size = "" }, func(h *header) { h.size = "0\x00" }, func(h *header) { h.size = "00000000008\x00" }, func(h *header) { h.size = "77777777777\x00" }, func(h *header) { h.size = "777777777777" }, func(h *header) { h.size = "-0000000001\x00" }, func(h *header) { h.size = "\x80" + noughts(10) + "\x01" },
		func(h *header) { h.kind = "" }, func(h *header) { h.kind = "1" }, func(h *header) { h.kind = "3" }, func(h *header) { h.kind = "6" }, func(h *header) { h.kind = "7" }, func(h *header) { h.kind = "x" }, func(h *header) { h.kind = "L" }, func(h *header) { h.kind = "\xff" },
		func(h *header) { h.link += "\x00x" }, func(h *header) { h.name += "\x00x" }, func(h *header) { h.ahead += "\x00x" }, func(h *header) { h.mode = "000000\x000" },
		func(h *header) { h.name = "" }, func(h *header) { h.name = "/" + h.name }, func(h *header) { h.name = "./" + h.name }, func(h *header) { h.name = "d//" + h.name }, func(h *header) { h.name = "../" + h.name }, func(h *header) { h.name += "/" }, func(h *header) { h.name += " " }, func(h *header) { h.name = ".wh." + h.name }, func(h *header) { h.name = "\xc3\xa9" + h.name },
		func(h *header) { h.ahead = "a" }, func(h *header) { h.ahead = "/" }, func(h *header) { h.ahead = "." }, func(h *header) { h.ahead = strings.Repeat("a", 155) },
	} {
		for _, c := range []api.Change{put(dir("d", 0755)), put(file("f", 0644, "")), put(link("l", "x")), gone("g"), cleared("c")} {
			h := headerOf(c)
			turn(&h)
			if h == headerOf(c) {
				t.Fatalf("%v is not turned", c)
			}
			checkOther(t, h.String())
		}
	}
}

// What only one kind has, of another one.
func TestP8FieldsOfOtherKinds(t *testing.T) {
	for _, c := range []api.Change{put(dir("d", 0755)), put(file("f", 0644, "")), gone("g"), cleared("c")} {
		h := headerOf(c)
		h.link = "x"
		checkOther(t, h.String())
	}
	for _, c := range []api.Change{put(dir("d", 0)), put(link("l", "x")), gone("g"), cleared("c")} {
		h := headerOf(c)
		h.size = "00000000001\x00"
		checkOther(t, h.String()+room("x", 512))
		checkOther(t, h.String())
	}
	for _, c := range []api.Change{put(link("l", "x")), gone("g"), cleared("c")} {
		h := headerOf(c)
		h.mode = "0000644\x00"
		checkOther(t, h.String())
	}
	for _, kind := range []string{"2", "5"} {
		for _, c := range []api.Change{gone("g"), cleared("c"), cleared("")} {
			h := headerOf(c)
			h.kind = kind
			checkOther(t, h.String())
			h.link = "x"
			checkOther(t, h.String())
		}
	}
	h := headerOf(put(dir("d", 0755)))
	h.name = "d"
	checkOther(t, h.String())
	h.kind = "0"
	checkUnpack(t, h.String()+noughts(1024), put(file("d", 0755, "")))
}

// The check has one form, and must be right.
func TestP8Check(t *testing.T) {
	h := headerOf(put(dir("etc", 0755)))
	h.check = "007760\x00 "
	checkUnpack(t, h.String()+noughts(1024), put(dir("etc", 0755)))
	for _, s := range []string{"007761\x00 ", "007757\x00 ", "000000\x00 ", "007760 \x00", "007760\x00\x00", "007760  ", "  7760\x00 ", "7760\x00 ", "0007760\x00", "0007760 ", "        ", "\x00"} {
		h.check = s
		checkOther(t, h.String())
	}
}

// A name that is parted elsewhere, or in vain.
func TestP8OtherParts(t *testing.T) {
	n := strings.Repeat("n", 50)
	for _, x := range []struct{ ahead, name string }{
		{"a", "b"}, {"a", "b/c"}, {"a/b", "c"}, {n, n[:49]}, {"a/b/" + n, n[:49]},
		// The first slash behind which there are at most 100 bytes stands ahead.
		{"a/b/" + n[:49], n}, {"a/b", n[:40] + "/" + n}, {n + "/" + n[:40], n},
	} {
		h := headerOf(put(file(x.ahead+"/"+x.name, 0, "")))
		if h.ahead == x.ahead {
			t.Fatalf("%v is how it is parted", x)
		}
		h.ahead, h.name = x.ahead, x.name
		checkOther(t, h.String())
	}
}

// Written as if they were changes, but they are none by themselves.
func TestP8NoChange(t *testing.T) {
	long := strings.Repeat("n", api.MaxName)
	for _, path := range []string{
		"a//b", "/a", "a/", ".", "..", "a/..", "a b", "a\n", "a:", "a\\b", "a/.wh.b/c", ".wh.a/b", "a/.wh..wh..opq/c", long + "n",
		long + "/" + long + "/" + strings.Repeat("n", api.MaxPath-2*api.MaxName-1), strings.Repeat("a/", api.MaxDeep) + "a",
	} {
		for _, c := range []api.Change{put(dir(path, 0755)), put(file(path, 0644, "x")), put(link(path, "t")), gone(path), cleared(path)} {
			checkOther(t, piece(c))
		}
	}
	for _, c := range []api.Change{
		put(dir(".wh.a", 0755)), put(link(".wh.a", "t")), put(dir("", 0755)), put(file("", 0644, "")), put(link("", "t")), gone(""),
		put(dir("d", api.MaxMode+1)), put(file("f", api.MaxMode+1, "")), put(file("f", 0, strings.Repeat("x", api.MaxFile+1))),
		put(link("l", "")), put(link("l", " ")), put(link("l", "a b")), put(link("l", "\x7f")), put(link("l", "\x01")), {Path: "l", Kind: api.Link, Mode: 0777, Data: "t"},
		{Path: "g", Kind: api.Gone, Mode: 1}, {Path: "c", Kind: api.Clear, Mode: 0755}, gone(".wh..opq"), gone(".wh.a"),
	} {
		if c.Path == ".wh..opq" {
			// So written it is the Clear of the root, which may stand at the beginning.
			checkUnpack(t, piece(c)+noughts(1024), cleared(""))
			continue
		}
		checkOther(t, piece(c))
	}
}

// Data of a File: all of it must be there, and noughts behind it.
func TestP8Data(t *testing.T) {
	for _, n := range []int{1, 511, 513, 1023, 4095} {
		s := piece(put(file("f", 0644, strings.Repeat("x", n))))
		checkOther(t, s[:len(s)-1]+"x")
		checkOther(t, s[:512+n]+" "+s[512+n+1:])
		checkNoUnpack(t, s[:512+n], 0)
	}
	for _, n := range []int{512, 1024, 4096} {
		s := piece(put(file("f", 0644, strings.Repeat("x", n))))
		checkNoUnpack(t, s[:len(s)-512]+noughts(511), 0)
		// Without a block of data one of the end is its data: then the end is not whole.
		checkNoUnpack(t, s[:len(s)-512]+noughts(1024), len(s))
		checkNoUnpack(t, s+noughts(512)+noughts(1024), len(s))
	}
	// Noughts of the end may be data, too: what is written so is just that.
	h := headerOf(put(file("f", 0644, noughts(512))))
	checkUnpack(t, h.String()+noughts(512+1024), put(file("f", 0644, noughts(512))))
	checkNoUnpack(t, h.String()+noughts(1024), 1024)
}

// Each change is one, but may not stand behind those ahead of it.
func TestP8MayNotFollow(t *testing.T) {
	for _, l := range [][]api.Change{
		{gone("a"), gone("a")}, {put(dir("a", 0)), put(dir("a", 0))}, {cleared("a"), cleared("a")}, {cleared("a"), put(dir("a", 0))}, {put(dir("a", 0)), gone("a")},
		{cleared(""), cleared("")}, {gone("a"), cleared("")}, {gone("b"), gone("a")}, {gone("a-b"), gone("a/b")}, {gone("a"), gone("a/b")},
		{put(file("a", 0, "x")), put(file("a/b", 0, "x"))}, {put(link("a", "x")), cleared("a/b")}, {put(file("a", 0, "x")), cleared("a")}, {gone("a"), put(file("a", 0, "x"))},
		{put(dir("a", 0)), cleared("a"), put(file("a/b", 0, "x")), cleared("a")}, {put(dir("a", 0)), cleared("a"), cleared("a")},
	} {
		s, begin := pieces(l)
		checkNoUnpack(t, s+noughts(1024), begin[len(l)-1])
		checkNoUnpack(t, s, begin[len(l)-1])
	}
}

func TestP1ArchivesNoPanic(t *testing.T) {
	texts := []string{"", "/", ".wh.", ".wh..wh..opq", "a", "\x00", "\xff\xfe", strings.Repeat("/", 1<<16), strings.Repeat("a/", 1<<16), strings.Repeat("a", 1<<20)}
	numbers := []int{math.MinInt, -1, 0, 1, 2, 3, 4, 5, 6, api.MaxMode, math.MaxInt}
	for _, s := range texts {
		for _, kind := range numbers {
			for _, mode := range numbers {
				c := api.Change{Path: s, Kind: kind, Mode: mode, Data: s}
				if got, err := layers.Pack([]api.Change{c, c}); err == nil || got != "" {
					t.Errorf("P1: Pack: %d bytes, %v", len(got), err)
				}
			}
		}
	}
	checkNoPack(t, 0, make([]api.Change, 1<<16)...)
	for c := range 256 {
		for _, n := range []int{1, 99, 511, 512, 513, 1023, 1024, 1025, 1536, 1 << 16} {
			if c != 0 || n != 1024 {
				checkNoUnpack(t, strings.Repeat(string([]byte{byte(c)}), n), 0)
			}
		}
	}
	checkNoUnpack(t, noughts(1<<24), 0)
	checkNoUnpack(t, strings.Repeat(piece(gone("a")), 1<<14), 512)
}

// What is handed in stays as it is, behind its end too, and what comes out is new.
func TestP2ArchivesNothingWritten(t *testing.T) {
	l := append(someOfAll(), gone("spare"), api.Change{})
	kept := slices.Clone(l)
	for n := range len(l) - 1 {
		s := packed(t, l[:n]...)
		got, err := layers.Unpack(s)
		if err != nil {
			t.Fatal(err)
		}
		overwrite(got, api.Change{Path: "x", Kind: 9})
		checkUnpack(t, s, kept[:n]...)
		if !slices.Equal(l, kept) {
			t.Fatalf("P2: changed what was handed in: %v", l)
		}
	}
	checkNoPack(t, len(l)-1, l...)
	if !slices.Equal(l, kept) {
		t.Fatalf("P2: changed what was handed in: %v", l)
	}
}

// The texts that come out are no pieces of what was handed in.
func TestP2ArchivesShareNothing(t *testing.T) {
	long := strings.Repeat("n", 60)
	l := append(someOfAll(), put(file(long+"/"+long, 0, "some data")), gone(long+"/"+long[1:]+"o"))
	s := packed(t, l...)
	for _, c := range l {
		if isPieceOf(s, c.Path) || isPieceOf(s, c.Data) {
			t.Errorf("P2: the archive holds %v itself", c)
		}
	}
	got, err := layers.Unpack(s)
	if err != nil || !slices.Equal(got, l) {
		t.Fatal(err)
	}
	for _, c := range got {
		if isPieceOf(c.Path, s) || isPieceOf(c.Data, s) {
			t.Errorf("P2: %v that comes out is a piece of the archive", c)
		}
	}
}

// isPieceOf: the bytes of a text, which is not empty, lie in those of another one.
func isPieceOf(s, whole string) bool {
	if s == "" || whole == "" {
		return false
	}
	at, begin := uintptr(unsafe.Pointer(unsafe.StringData(s))), uintptr(unsafe.Pointer(unsafe.StringData(whole)))
	return begin <= at && at < begin+uintptr(len(whole))
}

func TestP2ArchivesHangOnArguments(t *testing.T) {
	l := someOfAll()
	s := modelPack(l)
	for range 50 {
		checkBoth(t, s, l...)
		checkNoPack(t, 1, l[1], l[0])
		checkNoUnpack(t, s[512:]+s, len(s)-512-1024)
	}
}

func TestPlainArchives(t *testing.T) {
	s, e, at := plain.Pack([]api.Change{gone("a")})
	if s != modelPack([]api.Change{gone("a")}) || e != api.OK || at != -1 {
		t.Errorf("P7: %q, %d, %d", s, e, at)
	}
	if l, e, at := plain.Unpack(s); !slices.Equal(l, []api.Change{gone("a")}) || e != api.OK || at != -1 {
		t.Errorf("P8: %v, %d, %d", l, e, at)
	}
	if s, e, at := plain.Pack([]api.Change{gone("a"), gone("a")}); s != "" || e != api.ErrChange || at != 1 {
		t.Errorf("P7: %q, %d, %d", s, e, at)
	}
	if l, e, at := plain.Unpack(s + "x"); l != nil || e != api.ErrTar || at != 512 {
		t.Errorf("P8: %v, %d, %d", l, e, at)
	}
}
