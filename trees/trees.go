// Package trees: trees of entries, what is done on them, and their sums.
package trees

import (
	"iter"
	"maps"
	"slices"
	"strconv"
	"strings"

	"layers/api"
	"layers/digest"
	"layers/paths"
)

// rootMode is the mode of the root, which no entry tells.
const rootMode = 0755

// Node is an entry, and what is in it, by last elements.
type Node struct {
	api.Entry
	kids map[string]*Node
}

// New makes a tree without entries, and tells its root.
func New() *Node {
	return newNode(api.Entry{Path: paths.Root, Kind: api.Dir, Mode: rootMode})
}

// Of makes a tree of a list, and tells its root; ErrTree, with the place, if the list is none.
func Of(l []api.Entry) (*Node, error) {
	root := New()
	ahead := root.Path
	for i, e := range l {
		if i >= api.MaxEntries || !IsEntry(e) || paths.Compare(ahead, e.Path) >= 0 || !root.Put(e) {
			return nil, &api.At{Err: api.ErrTree, Place: i}
		}
		ahead = e.Path
	}
	return root, nil
}

func newNode(e api.Entry) *Node {
	return &Node{Entry: e, kids: map[string]*Node{}}
}

// IsEntry tells whether an entry is one by itself, wherever it stands.
func IsEntry(e api.Entry) bool {
	if e.Path == paths.Root || !paths.Is(e.Path) {
		return false
	}
	switch e.Kind {
	case api.Dir:
		return isMode(e.Mode) && e.Data == ""
	case api.File:
		return isMode(e.Mode) && len(e.Data) <= api.MaxFile
	case api.Link:
		return e.Mode == 0 && IsTarget(e.Data)
	}
	return false
}

func isMode(mode int) bool {
	return 0 <= mode && mode <= api.MaxMode
}

// IsTarget tells whether a text may be the target of a Link.
func IsTarget(s string) bool {
	if s == "" || len(s) > api.MaxLink {
		return false
	}
	for i := range len(s) {
		if s[i] < 33 || s[i] > 126 {
			return false
		}
	}
	return true
}

// Clone makes a node of its own of a node and all below it. It goes as deep as the tree, like each.
func (n *Node) Clone() *Node {
	c := newNode(n.Entry)
	for name, kid := range n.Inside() {
		c.kids[name] = kid.Clone()
	}
	return c
}

// Put lays an entry into its directory below the root, in the place of what stands there; but what is in a Dir stays, if the entry is one too. False, if there is no such directory.
func (n *Node) Put(e api.Entry) bool {
	path, name := paths.Last(e.Path)
	dir := n.Find(path)
	if !dir.IsDir() {
		return false
	}
	if old := dir.kids[name]; old.IsDir() && e.Kind == api.Dir {
		old.Entry = e
	} else {
		dir.kids[name] = newNode(e)
	}
	return true
}

// Remove takes away what is at a path below the root, and all below it. Nothing may be there any more: of two marks the first may have taken away what the second one names.
func (n *Node) Remove(path string) {
	path, name := paths.Last(path)
	if dir := n.Find(path); dir != nil {
		delete(dir.kids, name)
	}
}

// Clear takes away all that is below a path, if that is there.
func (n *Node) Clear(path string) {
	if dir := n.Find(path); dir != nil {
		clear(dir.kids)
	}
}

// Find tells what is at a path below the root; nil, if nothing is.
func (n *Node) Find(path string) *Node {
	for _, name := range paths.Elements(path) {
		kid, ok := n.kids[name]
		if !ok {
			return nil
		}
		n = kid
	}
	return n
}

// IsDir tells whether a Dir is there: nil, where Find tells of nothing, is none.
func (n *Node) IsDir() bool {
	return n != nil && n.Kind == api.Dir
}

// Has tells whether something of this last element is in a node.
func (n *Node) Has(name string) bool {
	return n.kids[name] != nil
}

// Wide tells how many entries are in a node, not deeper.
func (n *Node) Wide() int {
	return len(n.kids)
}

// Inside goes through what is in a node, not deeper, by rising last elements: the map's own order may not be seen in an answer.
func (n *Node) Inside() iter.Seq2[string, *Node] {
	return func(yield func(string, *Node) bool) {
		for _, name := range slices.Sorted(maps.Keys(n.kids)) {
			if !yield(name, n.kids[name]) {
				return
			}
		}
	}
}

// All goes through a node and all below it, in tree order.
func (n *Node) All() iter.Seq[*Node] {
	return func(yield func(*Node) bool) {
		n.each(yield)
	}
}

// each tells whether to go on behind the node. It goes as deep as the tree, which the bound of a path holds at MaxDeep.
func (n *Node) each(yield func(*Node) bool) bool {
	if !yield(n) {
		return false
	}
	for _, kid := range n.Inside() {
		if !kid.each(yield) {
			return false
		}
	}
	return true
}

// List tells the entries below the root, in tree order.
func (n *Node) List() []api.Entry {
	var l []api.Entry
	for kid := range n.All() {
		if kid != n {
			l = append(l, kid.Copy())
		}
	}
	return l
}

// Below tells how many entries are below a node.
func (n *Node) Below() int {
	count := 0
	for kid := range n.All() {
		if kid != n {
			count++
		}
	}
	return count
}

// Copy tells a node's entry. Its texts are new ones: what comes out shares no memory with what was handed in.
func (n *Node) Copy() api.Entry {
	return api.Entry{Path: strings.Clone(n.Path), Kind: n.Kind, Mode: n.Mode, Data: strings.Clone(n.Data)}
}

// Sum tells the sum of a node; that of the root is the tree's (P4).
func (n *Node) Sum() string {
	return digest.Of(n.summed())
}

// summed is the text whose digest is the sum. It goes as deep as the tree, like each.
func (n *Node) summed() string {
	switch n.Kind {
	case api.File:
		return "file " + octal(n.Mode) + " " + strconv.Itoa(len(n.Data)) + "\n" + n.Data
	case api.Link:
		return "link " + n.Data
	}
	var b strings.Builder
	b.WriteString("dir " + octal(n.Mode) + "\n")
	for name, kid := range n.Inside() {
		b.WriteString(name + " " + kid.Sum() + "\n")
	}
	return b.String()
}

func octal(n int) string {
	return strconv.FormatInt(int64(n), 8)
}
