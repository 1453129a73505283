// Package trees: trees of entries, and their sums.
package trees

import (
	"iter"
	"maps"
	"slices"
	"strconv"
	"strings"

	"layers/api"
	"layers/digest"
	"layers/paths"
)

// rootMode is the mode of the root, which no entry tells.
const rootMode = 0755

// Node is an entry, and what is in it, by last elements.
type Node struct {
	api.Entry
	kids map[string]*Node
}

// Of makes a tree of a list, and tells its root; ErrTree, with the place, if the list is none.
func Of(l []api.Entry) (*Node, error) {
	root := newNode(api.Entry{Path: paths.Root, Kind: api.Dir, Mode: rootMode})
	ahead := root.Path
	for i, e := range l {
		if i >= api.MaxEntries || !isEntry(e) || paths.Compare(ahead, e.Path) >= 0 || !root.add(e) {
			return nil, &api.At{Err: api.ErrTree, Place: i}
		}
		ahead = e.Path
	}
	return root, nil
}

func newNode(e api.Entry) *Node {
	return &Node{Entry: e, kids: map[string]*Node{}}
}

// isEntry tells whether an entry is one by itself, wherever it stands.
func isEntry(e api.Entry) bool {
	if e.Path == paths.Root || !paths.Is(e.Path) {
		return false
	}
	switch e.Kind {
	case api.Dir:
		return isMode(e.Mode) && e.Data == ""
	case api.File:
		return isMode(e.Mode) && len(e.Data) <= api.MaxFile
	case api.Link:
		return e.Mode == 0 && isTarget(e.Data)
	}
	return false
}

func isMode(mode int) bool {
	return 0 <= mode && mode <= api.MaxMode
}

func isTarget(s string) bool {
	if s == "" || len(s) > api.MaxLink {
		return false
	}
	for i := range len(s) {
		if s[i] < 33 || s[i] > 126 {
			return false
		}
	}
	return true
}

// add lays an entry into its directory below the root; false, if there is no such directory.
func (n *Node) add(e api.Entry) bool {
	path, name := paths.Last(e.Path)
	dir := n.find(path)
	if dir == nil || dir.Kind != api.Dir {
		return false
	}
	dir.kids[name] = newNode(e)
	return true
}

// find tells what is at a path below the root; nil, if nothing is.
func (n *Node) find(path string) *Node {
	for _, name := range paths.Elements(path) {
		kid, ok := n.kids[name]
		if !ok {
			return nil
		}
		n = kid
	}
	return n
}

// Inside goes through what is in a node, not deeper, by rising last elements: the map's own order may not be seen in an answer.
func (n *Node) Inside() iter.Seq2[string, *Node] {
	return func(yield func(string, *Node) bool) {
		for _, name := range slices.Sorted(maps.Keys(n.kids)) {
			if !yield(name, n.kids[name]) {
				return
			}
		}
	}
}

// Sum tells the sum of a node; that of the root is the tree's (P4).
func (n *Node) Sum() string {
	return digest.Of(n.summed())
}

// summed is the text whose digest is the sum. It goes as deep as the tree, which the bound of a path holds at MaxDeep.
func (n *Node) summed() string {
	switch n.Kind {
	case api.File:
		return "file " + octal(n.Mode) + " " + strconv.Itoa(len(n.Data)) + "\n" + n.Data
	case api.Link:
		return "link " + n.Data
	}
	var b strings.Builder
	b.WriteString("dir " + octal(n.Mode) + "\n")
	for name, kid := range n.Inside() {
		b.WriteString(name + " " + kid.Sum() + "\n")
	}
	return b.String()
}

func octal(n int) string {
	return strconv.FormatInt(int64(n), 8)
}
