package layers_test

import (
	"archive/tar"
	"fmt"
	"io"
	"math/rand"
	"slices"
	"strings"
	"testing"

	"layers/api"
	"layers/layers"
)

// A second reading of P7 and P8: a block is a row of texts, laid one behind the other; and what is to be read of a block is asked of the library.

// noughts: so many bytes 0.
func noughts(n int) string {
	return strings.Repeat("\x00", n)
}

// room: a text, with noughts behind it up to so many bytes.
func room(s string, n int) string {
	return s + noughts(n-len(s))
}

// header: the fields of a block as they stand there. Without a check it is the right one.
type header struct {
	name, mode, user, group, size, time, check, kind, link, magic, names, device, device2, ahead, rest string
}

func (h header) String() string {
	ahead := room(h.name, 100) + room(h.mode, 8) + room(h.user, 8) + room(h.group, 8) + room(h.size, 12) + room(h.time, 12)
	behind := room(h.kind, 1) + room(h.link, 100) + room(h.magic, 8) + room(h.names, 64) + room(h.device, 8) + room(h.device2, 8) + room(h.ahead, 155) + room(h.rest, 12)
	if h.check == "" {
		sum := 8 * int(' ')
		for _, c := range []byte(ahead + behind) {
			sum += int(c)
		}
		h.check = fmt.Sprintf("%06o\x00 ", sum)
	}
	return ahead + room(h.check, 8) + behind
}

// headerOf: the fields, as P7 tells them.
func headerOf(c api.Change) header {
	zero := fmt.Sprintf("%07o\x00", 0)
	h := header{
		mode: fmt.Sprintf("%07o\x00", c.Mode), user: zero, group: zero, size: fmt.Sprintf("%011o\x00", 0), time: fmt.Sprintf("%011o\x00", 0),
		kind: "0", magic: "ustar\x0000", device: zero, device2: zero,
	}
	name := c.Path
	switch c.Kind {
	case api.Dir:
		h.kind, name = "5", name+"/"
	case api.Link:
		h.kind, h.link = "2", c.Data
	case api.File:
		h.size = fmt.Sprintf("%011o\x00", len(c.Data))
	case api.Gone:
		i := strings.LastIndexByte(name, '/') + 1
		name = name[:i] + ".wh." + name[i:]
	case api.Clear:
		if name != "" {
			name += "/"
		}
		name += ".wh..wh..opq"
	}
	h.ahead, h.name = partedName(name)
	return h
}

// partedName: a name of more than 100 bytes is parted at the first slash behind which there are at most 100.
func partedName(name string) (string, string) {
	if len(name) <= 100 {
		return "", name
	}
	for i := range len(name) {
		if name[i] == '/' && len(name[i+1:]) <= 100 {
			return name[:i], name[i+1:]
		}
	}
	panic(name)
}

// piece: what an archive has of one change.
func piece(c api.Change) string {
	s := headerOf(c).String()
	if c.Kind != api.File {
		return s
	}
	s += c.Data
	for len(s)%512 != 0 {
		s += "\x00"
	}
	return s
}

// pieces: what an archive has of changes, and where each one begins, and what is behind the last one.
func pieces(l []api.Change) (string, []int) {
	s, begin := "", []int{0}
	for _, c := range l {
		s += piece(c)
		begin = append(begin, len(s))
	}
	return s, begin
}

func modelPack(l []api.Change) string {
	s, _ := pieces(l)
	return s + noughts(1024)
}

// libraryChange: what the library reads of an archive's first entry, as a change.
func libraryChange(s string) (api.Change, bool) {
	r := tar.NewReader(strings.NewReader(s))
	h, err := r.Next()
	if err != nil {
		return api.Change{}, false
	}
	data, err := io.ReadAll(r)
	if err != nil {
		return api.Change{}, false
	}
	c := api.Change{Path: strings.TrimSuffix(h.Name, "/"), Mode: int(h.Mode)}
	dir, last := "", c.Path
	if i := strings.LastIndexByte(c.Path, '/'); i >= 0 {
		dir, last = c.Path[:i], c.Path[i+1:]
	}
	switch {
	case h.Typeflag == tar.TypeDir:
		c.Kind = api.Dir
	case h.Typeflag == tar.TypeSymlink:
		c.Kind, c.Data = api.Link, h.Linkname
	case last == ".wh..wh..opq":
		c.Kind, c.Path = api.Clear, dir
	case strings.HasPrefix(last, ".wh."):
		c.Kind, c.Path = api.Gone, strings.TrimPrefix(dir+"/"+last[4:], "/")
	default:
		c.Kind, c.Data = api.File, string(data)
	}
	return c, true
}

// modelUnpack: the changes, or the place of the error; -1, if there is none.
func modelUnpack(s string) ([]api.Change, int) {
	var l []api.Change
	for at := 0; ; {
		if s[at:] == noughts(1024) {
			return l, -1
		}
		c, ok := libraryChange(s[at:])
		l = append(l, c)
		if _, err := layers.Patch(nil, l); !ok || isChangeError(err) || !strings.HasPrefix(s[at:], piece(c)) {
			return nil, at
		}
		at += len(piece(c))
	}
}

// checkAsModel: Unpack tells what the second reading tells; and whether it is an archive.
func checkAsModel(t *testing.T, s string) bool {
	t.Helper()
	want, place := modelUnpack(s)
	if place < 0 {
		checkUnpack(t, s, want...)
		return true
	}
	checkNoUnpack(t, s, place)
	return false
}

// someLongPath: of elements of many lengths, so that all ways to part a name are met.
func someLongPath(r *rand.Rand) string {
	path := strings.Repeat(string("ab"[r.Intn(2)]), 1+r.Intn(api.MaxName))
	for n := 1; n < api.MaxDeep && r.Intn(6) != 0; n++ {
		more := path + "/" + strings.Repeat(string("ab"[r.Intn(2)]), 1+r.Intn(api.MaxName))
		if len(more) > api.MaxPath {
			break
		}
		path = more
	}
	return path
}

// someArchived: a change of a path of any length, with data of any size.
func someArchived(r *rand.Rand) api.Change {
	path := someLongPath(r)
	if r.Intn(2) == 0 {
		path = somePath(r)
	}
	data := make([]byte, []int{0, 1, 2, 511, 512, 513, r.Intn(api.MaxFile + 1)}[r.Intn(7)])
	r.Read(data)
	target := strings.Repeat("t", 1+r.Intn(api.MaxLink))
	return []api.Change{put(dir(path, r.Intn(api.MaxMode+1))), put(file(path, r.Intn(api.MaxMode+1), string(data))), put(link(path, target)), gone(path), cleared(path)}[r.Intn(5)]
}

// someChanges: a list of changes.
func someChanges(r *rand.Rand, n int) []api.Change {
	var l, out []api.Change
	for range r.Intn(n + 1) {
		l = append(l, someArchived(r))
	}
	if r.Intn(4) == 0 {
		l = append(l, cleared(""))
	}
	slices.SortStableFunc(l, func(x, y api.Change) int { return treeOrder(x.Path, y.Path) })
	for _, c := range l {
		if areChanges(append(slices.Clone(out), c)) {
			out = append(out, c)
		}
	}
	return out
}

func TestP7P8ManyChanges(t *testing.T) {
	r := rand.New(rand.NewSource(4))
	for range 500 {
		l := someChanges(r, 12)
		checkPack(t, l, modelPack(l))
		checkUnpack(t, modelPack(l), l...)
		checkAsModel(t, modelPack(l))
	}
}

// Changes of which each is one by itself, in an order in which they may not stand: the place is that of the first one which may not.
func TestP8ManyOrders(t *testing.T) {
	r := rand.New(rand.NewSource(5))
	wrong := 0
	for range 3000 {
		var l []api.Change
		for range 1 + r.Intn(6) {
			l = append(l, someChange(r))
		}
		if r.Intn(4) != 0 {
			slices.SortStableFunc(l, func(x, y api.Change) int { return treeOrder(x.Path, y.Path) })
		}
		s, begin := pieces(l)
		i := 0
		for i < len(l) && areChanges(l[:i+1]) {
			i++
		}
		if i == len(l) {
			checkUnpack(t, s+noughts(1024), l...)
			continue
		}
		wrong++
		checkNoUnpack(t, s+noughts(1024), begin[i])
	}
	if wrong < 1000 {
		t.Errorf("only %d lists that are no changes", wrong)
	}
}

// sealed: the block that begins there has the right check.
func sealed(b []byte, at int) []byte {
	sum := 8 * int(' ')
	for i, c := range b[at : at+512] {
		if i < 148 || i >= 156 {
			sum += int(c)
		}
	}
	copy(b[at+148:], fmt.Sprintf("%06o\x00 ", sum))
	return b
}

// damaged: bytes of an archive are turned, or whole blocks are moved. Where bytes are turned, the check is set right, so that it alone does not tell.
func damaged(r *rand.Rand, s string) string {
	b := []byte(s)
	at := r.Intn(len(b)/512) * 512
	k, j := r.Intn(512), r.Intn(512)
	switch r.Intn(8) {
	case 0:
		b[at+k] = "\x00 /.wh0157a"[r.Intn(11)]
		return string(sealed(b, at))
	case 1:
		j = r.Intn(101)
		b[at+j] = "\x00 /.wh0157a"[r.Intn(11)]
		return string(sealed(b, at))
	case 2:
		b[at+k], b[at+j] = b[at+j], b[at+k]
		return string(b)
	case 3:
		j = 100 + r.Intn(57)
		b[at+j] = "\x00 01234567"[r.Intn(10)]
		return string(sealed(b, at))
	case 4:
		return s[:at] + s[at+512:]
	case 5:
		return s[:at] + s[at:at+512] + s[at:]
	case 6:
		return s[:at] + noughts(512) + s[at:]
	}
	return s[:at+k]
}

func TestP8ManyDamaged(t *testing.T) {
	r := rand.New(rand.NewSource(6))
	good := 0
	const all = 4000
	for range all {
		s := damaged(r, modelPack(someChanges(r, 4)))
		if checkAsModel(t, s) {
			good++
		}
	}
	if good == 0 || good == all {
		t.Errorf("%d of %d are archives", good, all)
	}
}
