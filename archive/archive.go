// Package archive: archives of changes, and what they say.
package archive

import (
	"strings"

	"layers/api"
	"layers/changes"
)

// Pack makes an archive of changes (P7).
func Pack(l []api.Change) (string, error) {
	if err := changes.Check(l); err != nil {
		return "", err
	}
	var b strings.Builder
	for _, c := range l {
		b.WriteString(written(c))
	}
	b.WriteString(ending())
	return b.String(), nil
}

// written is what an archive has of one change.
func written(c api.Change) string {
	b := newBlock(c)
	if c.Kind != api.File {
		return string(b[:])
	}
	return string(b[:]) + filled(c.Data)
}

// filled is data with as many noughts behind it as whole blocks need.
func filled(data string) string {
	over := len(data) % blockSize
	if over == 0 {
		return data
	}
	return data + noughts(blockSize-over)
}

// ending is what stands behind the last change.
func ending() string {
	return noughts(2 * blockSize)
}

func noughts(n int) string {
	return strings.Repeat(nought, n)
}

// Unpack tells the changes of which an archive is made (P8).
func Unpack(s string) ([]api.Change, error) {
	var l []api.Change
	rest := s
	for rest != ending() {
		c, behind, ok := next(l, rest)
		if !ok {
			return nil, &api.At{Err: api.ErrTar, Place: len(s) - len(rest)}
		}
		l = append(l, c)
		rest = behind
	}
	return l, nil
}

// next tells the change with which a text begins, and what stands behind it. What was read may be written in other ways, too: so it is written anew, and held against the text.
func next(ahead []api.Change, s string) (api.Change, string, bool) {
	c := read(s)
	if !changes.MayFollow(ahead, c) {
		return api.Change{}, "", false
	}
	behind, ok := strings.CutPrefix(s, written(c))
	// Data is still a piece of what was handed in.
	c.Data = strings.Clone(c.Data)
	return c, behind, ok
}

// read tells the one change of which a text may be the writing; a change of no kind, which may stand nowhere, if there is none.
func read(s string) api.Change {
	if len(s) < blockSize {
		return api.Change{}
	}
	var b block
	copy(b[:], s)
	c := b.change()
	if c.Kind != api.File {
		return c
	}
	data, size := s[blockSize:], b.number(sizeField)
	if size < 0 || size > len(data) {
		return api.Change{}
	}
	c.Data = data[:size]
	return c
}
