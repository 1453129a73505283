// Package changes: what changes are, what makes one tree of another, and changes done on a tree.
package changes

import (
	"strings"

	"layers/api"
	"layers/paths"
	"layers/trees"
)

// Check tells ErrChange, with the place, if a list is no changes.
func Check(l []api.Change) error {
	for i, c := range l {
		if !MayFollow(l[:i], c) {
			return &api.At{Err: api.ErrChange, Place: i}
		}
	}
	return nil
}

// MayFollow tells whether a change may stand behind changes. The last of them tells enough: all below a path stands right behind it in tree order.
func MayFollow(ahead []api.Change, c api.Change) bool {
	n := len(ahead)
	if n >= api.MaxChanges || !isChange(c) {
		return false
	}
	if n == 0 {
		return true
	}
	last := ahead[n-1]
	if last.Path == c.Path {
		return last.Kind == api.Dir && c.Kind == api.Clear
	}
	return paths.Compare(last.Path, c.Path) < 0 && (mayHold(last) || !paths.IsBelow(c.Path, last.Path))
}

// isChange tells whether a change is one by itself, wherever it stands.
func isChange(c api.Change) bool {
	if !IsMark(c) {
		return trees.IsEntry(api.Entry(c))
	}
	if c.Kind == api.Gone && c.Path == paths.Root {
		return false
	}
	return paths.Is(c.Path) && c.Mode == 0 && c.Data == ""
}

// IsMark tells whether a change is a mark, not an entry.
func IsMark(c api.Change) bool {
	return c.Kind == api.Gone || c.Kind == api.Clear
}

// mayHold tells whether there may be changes below the path of a change.
func mayHold(c api.Change) bool {
	return c.Kind == api.Dir || c.Kind == api.Clear
}

// newMark makes a mark. Its path is a new text: what comes out shares no memory with what was handed in.
func newMark(path string, kind int) api.Change {
	return api.Change{Path: strings.Clone(path), Kind: kind}
}
