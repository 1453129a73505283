package archive

import (
	"strconv"
	"strings"

	"layers/api"
)

const (
	blockSize = 512
	// nought is what fills up texts, data and the end.
	nought = "\x00"
	blank  = " "
	magic  = "ustar\x0000"
)

// The kinds, as archives tell them.
const (
	fileKind = "0"
	linkKind = "2"
	dirKind  = "5"
)

// block is the header of a change.
type block [blockSize]byte

// field of a block: where it begins, and how many bytes it has.
type field struct {
	begin, size int
}

// The fields. Those of two names, and the last bytes, are noughts in all blocks.
var (
	nameField    = field{0, 100}
	modeField    = field{100, 8}
	userField    = field{108, 8}
	groupField   = field{116, 8}
	sizeField    = field{124, 12}
	timeField    = field{136, 12}
	checkField   = field{148, 8}
	kindField    = field{156, 1}
	linkField    = field{157, 100}
	magicField   = field{257, 8}
	deviceField  = field{329, 8}
	device2Field = field{337, 8}
	aheadField   = field{345, 155}
)

// newBlock tells the header of a change.
func newBlock(c api.Change) block {
	var b block
	b.setName(nameOf(c))
	b.setNumber(modeField, c.Mode)
	b.setNumber(userField, 0)
	b.setNumber(groupField, 0)
	b.setNumber(sizeField, 0)
	b.setNumber(timeField, 0)
	b.setKind(c)
	b.setText(magicField, magic)
	b.setNumber(deviceField, 0)
	b.setNumber(device2Field, 0)
	b.setCheck()
	return b
}

func (b *block) setName(name string) {
	ahead, behind := parted(name)
	b.setText(aheadField, ahead)
	b.setText(nameField, behind)
}

// setKind writes the kind, and what this kind alone has. A mark is a file without data: whoever knows nothing of marks can read it.
func (b *block) setKind(c api.Change) {
	switch c.Kind {
	case api.Dir:
		b.setText(kindField, dirKind)
	case api.Link:
		b.setText(linkField, c.Data)
		b.setText(kindField, linkKind)
	case api.File:
		b.setNumber(sizeField, len(c.Data))
		fallthrough
	case api.Gone, api.Clear:
		b.setText(kindField, fileKind)
	}
}

// setCheck goes last, since it sums up all other fields. The last blank that it is summed up with stays.
func (b *block) setCheck() {
	b.setText(checkField, strings.Repeat(blank, checkField.size))
	sum := 0
	for _, c := range b[:] {
		sum += int(c)
	}
	b.setNumber(field{checkField.begin, checkField.size - 1}, sum)
}

// setText writes a text that the field has room for into a field that is noughts so far, or filled by this text.
func (b *block) setText(f field, s string) {
	copy(b.bytes(f), s)
}

// setNumber writes a number in octal digits that fill the field but for its last byte.
func (b *block) setNumber(f field, n int) {
	digits := strconv.FormatInt(int64(n), 8)
	ahead := strings.Repeat("0", f.size-1-len(digits))
	b.setText(f, ahead+digits+nought)
}

// bytes is a field itself, not a copy.
func (b *block) bytes(f field) []byte {
	return b[f.begin : f.begin+f.size]
}

// text tells the text of a field, up to its first nought.
func (b *block) text(f field) string {
	s, _, _ := strings.Cut(string(b.bytes(f)), nought)
	return s
}

// number tells the number of a field; -1, which is neither a mode nor a size, if there is none.
func (b *block) number(f field) int {
	n, err := strconv.ParseInt(b.text(f), 8, 0)
	if err != nil {
		return -1
	}
	return int(n)
}

// change tells what a block says, but for the data of a File. What is said in no way is a change of no kind.
func (b *block) change() api.Change {
	name := joined(b.text(aheadField), b.text(nameField))
	c := api.Change{Mode: b.number(modeField)}
	switch b.text(kindField) {
	case dirKind:
		c.Path, c.Kind = dirPath(name), api.Dir
	case linkKind:
		c.Path, c.Kind, c.Data = name, api.Link, b.text(linkField)
	case fileKind:
		c.Path, c.Kind = unmarked(name)
	}
	return c
}
