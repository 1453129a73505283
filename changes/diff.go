package changes

import (
	"slices"

	"layers/api"
	"layers/paths"
	"layers/trees"
)

// few is how many entries of a directory must have gone to be told by one Clear.
const few = 2

// Diff tells the changes that make the tree b of the tree a, by their roots (P5). There are at most MaxChanges: each entry of b makes at most one, and of those in a each one makes a Gone, or two or more of them a Clear.
func Diff(a *trees.Node, b *trees.Node) []api.Change {
	var l []api.Change
	for _, path := range allPaths(a, b) {
		old, now := a.Find(path), b.Find(path)
		if now != nil && !isSame(old, now) {
			l = append(l, api.Change(now.Copy()))
		}
		if isCleared(old, now) {
			l = append(l, newMark(path, api.Clear))
		}
		if now == nil && isToldGone(a, b, path) {
			l = append(l, newMark(path, api.Gone))
		}
	}
	return l
}

// allPaths tells the paths that are in a or in b, and the root, in tree order.
func allPaths(a *trees.Node, b *trees.Node) []string {
	var l []string
	for n := range a.All() {
		l = append(l, n.Path)
	}
	for n := range b.All() {
		l = append(l, n.Path)
	}
	slices.SortFunc(l, paths.Compare)
	return slices.Compact(l)
}

// isSame holds of the two roots, too, which are alike in all trees: no change tells them.
func isSame(old *trees.Node, now *trees.Node) bool {
	return old != nil && old.Entry == now.Entry
}

// isCleared tells whether a Clear says that nothing of what was in a directory is left.
func isCleared(old *trees.Node, now *trees.Node) bool {
	if !old.IsDir() || !now.IsDir() || old.Wide() < few {
		return false
	}
	for name := range old.Inside() {
		if now.Has(name) {
			return false
		}
	}
	return true
}

// isToldGone tells whether a path that is in a alone needs a mark of its own: not, if what is said of its directory takes it away.
func isToldGone(a *trees.Node, b *trees.Node, path string) bool {
	dir, _ := paths.Last(path)
	now := b.Find(dir)
	return now.IsDir() && !isCleared(a.Find(dir), now)
}
