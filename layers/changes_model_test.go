package layers_test

import (
	"fmt"
	"math/rand"
	"slices"
	"strings"
	"testing"

	"layers/api"
	"layers/layers"
)

// A second reading of P5 and P6, on lists alone, word for word and without care for time; all small trees and changes are held against it.

func isIn(path, top string) bool {
	return path != "" && top == dirOf(path)
}

func dirOf(path string) string {
	if i := strings.LastIndexByte(path, '/'); i >= 0 {
		return path[:i]
	}
	return ""
}

func isUnder(path, top string) bool {
	return path != top && (top == "" || strings.HasPrefix(path, top+"/"))
}

func entryAt(l []api.Entry, path string) (api.Entry, bool) {
	if path == "" {
		return dir("", 0755), true
	}
	i := slices.IndexFunc(l, func(e api.Entry) bool { return e.Path == path })
	if i < 0 {
		return api.Entry{}, false
	}
	return l[i], true
}

func isDirAt(l []api.Entry, path string) bool {
	e, ok := entryAt(l, path)
	return ok && e.Kind == api.Dir
}

func treeOrder(a, b string) int {
	// No byte of an element is less than 1, so that a slash of that number stands ahead of all others.
	return strings.Compare(strings.ReplaceAll(a, "/", "\x01"), strings.ReplaceAll(b, "/", "\x01"))
}

func clearOf(a, b []api.Entry, path string) bool {
	n := 0
	for _, e := range a {
		if isIn(e.Path, path) {
			n++
			if _, ok := entryAt(b, e.Path); ok {
				return false
			}
		}
	}
	return n >= 2 && isDirAt(a, path) && isDirAt(b, path)
}

func modelDiff(a, b []api.Entry) []api.Change {
	all := []string{""}
	for _, e := range slices.Concat(a, b) {
		all = append(all, e.Path)
	}
	slices.SortFunc(all, treeOrder)
	var l []api.Change
	for _, path := range slices.Compact(all) {
		old, inA := entryAt(a, path)
		now, inB := entryAt(b, path)
		if inB && (!inA || old != now) {
			l = append(l, put(now))
		}
		if clearOf(a, b, path) {
			l = append(l, cleared(path))
		}
		if inA && !inB && isDirAt(b, dirOf(path)) && !clearOf(a, b, dirOf(path)) {
			l = append(l, gone(path))
		}
	}
	return l
}

func modelPatch(a []api.Entry, l []api.Change) ([]api.Entry, error) {
	for i, c := range l {
		_, there := entryAt(a, c.Path)
		if c.Kind == api.Gone && !there || c.Kind == api.Clear && !isDirAt(a, c.Path) {
			return nil, &api.At{Err: api.ErrMissing, Place: i}
		}
	}
	out := slices.Clone(a)
	for _, c := range l {
		if c.Kind == api.Gone || c.Kind == api.Clear {
			out = slices.DeleteFunc(out, func(e api.Entry) bool {
				return isUnder(e.Path, c.Path) || c.Kind == api.Gone && e.Path == c.Path
			})
		}
	}
	for i, c := range l {
		if c.Kind == api.Gone || c.Kind == api.Clear {
			continue
		}
		if !isDirAt(out, dirOf(c.Path)) {
			return nil, &api.At{Err: api.ErrKind, Place: i}
		}
		stays := c.Kind == api.Dir && isDirAt(out, c.Path)
		out = slices.DeleteFunc(out, func(e api.Entry) bool {
			return e.Path == c.Path || isUnder(e.Path, c.Path) && !stays
		})
		out = append(out, api.Entry(c))
	}
	slices.SortFunc(out, func(x, y api.Entry) int { return treeOrder(x.Path, y.Path) })
	if len(out) > api.MaxEntries {
		return nil, api.ErrBound
	}
	return out, nil
}

// areChanges, of changes that are some by themselves: each two of them are held against each other.
func areChanges(l []api.Change) bool {
	for j, c := range l {
		for i, ahead := range l[:j] {
			order := treeOrder(ahead.Path, c.Path)
			pair := order == 0 && i == j-1 && ahead.Kind == api.Dir && c.Kind == api.Clear
			closed := ahead.Kind == api.File || ahead.Kind == api.Link || ahead.Kind == api.Gone
			if order > 0 || order == 0 && !pair || closed && isUnder(c.Path, ahead.Path) {
				return false
			}
		}
	}
	return true
}

func modelChecked(a []api.Entry, l []api.Change) ([]api.Entry, error) {
	for i := range l {
		if !areChanges(l[:i+1]) {
			return nil, &api.At{Err: api.ErrChange, Place: i}
		}
	}
	return modelPatch(a, l)
}

// smallTrees: all trees with a, a/x, a/x/p, a/x/q, a/y and a-b of few kinds and modes.
func smallTrees() [][]api.Entry {
	var inX [][]api.Entry
	for n := range 4 {
		l := []api.Entry{dir("a/x", 0755)}
		if n&1 != 0 {
			l = append(l, file("a/x/p", 0, ""))
		}
		if n&2 != 0 {
			l = append(l, dir("a/x/q", 0))
		}
		inX = append(inX, l)
	}
	inX = append(inX, nil, []api.Entry{link("a/x", "t")})
	tops := [][]api.Entry{nil, {file("a", 0755, "")}, {link("a", "t")}}
	for _, mode := range []int{0755, 0700} {
		for _, x := range inX {
			for _, y := range [][]api.Entry{nil, {file("a/y", 0, "y")}} {
				tops = append(tops, slices.Concat([]api.Entry{dir("a", mode)}, x, y))
			}
		}
	}
	var all [][]api.Entry
	for _, top := range tops {
		for _, b := range [][]api.Entry{nil, {dir("a-b", 0)}, {file("a-b", 0, "")}} {
			all = append(all, slices.Concat(top, b))
		}
	}
	return all
}

func TestP5AllSmallTrees(t *testing.T) {
	all := smallTrees()
	for _, a := range all {
		for _, b := range all {
			checkDiff(t, a, b, modelDiff(a, b)...)
			checkPatch(t, a, modelDiff(a, b), b...)
		}
	}
}

// smallChanges: all lists of changes at the root, a, a/x and a-b, those that are none among them.
func smallChanges() [][]api.Change {
	all := [][]api.Change{nil, {cleared("")}}
	for _, path := range []string{"a", "a/x", "a-b"} {
		var more [][]api.Change
		for _, ahead := range all {
			for _, here := range [][]api.Change{
				nil, {put(dir(path, 0711))}, {put(dir(path, 0711)), cleared(path)}, {cleared(path)}, {gone(path)}, {put(file(path, 0, "new"))}, {put(link(path, "new"))},
			} {
				more = append(more, slices.Concat(ahead, here))
			}
		}
		all = more
	}
	return all
}

// checkModel: Patch tells what the second reading tells.
func checkModel(t *testing.T, a []api.Entry, l []api.Change) {
	t.Helper()
	want, wrong := modelChecked(a, l)
	if wrong == nil {
		checkPatch(t, a, l, want...)
		return
	}
	number, place := api.Tell(wrong)
	checkNoPatch(t, a, l, number, place)
}

func TestP6AllSmallChanges(t *testing.T) {
	for _, l := range smallChanges() {
		for _, a := range smallTrees() {
			checkModel(t, a, l)
		}
	}
}

// somePath: of few letters, so that many of them meet, and of far less than MaxDeep elements.
func somePath(r *rand.Rand) string {
	path := string("ab"[r.Intn(2)])
	for n := 0; n < 5 && r.Intn(3) != 0; n++ {
		path += string("/-/."[r.Intn(4)]) + string("ab"[r.Intn(2)])
	}
	return path
}

func someChange(r *rand.Rand) api.Change {
	path := somePath(r)
	return []api.Change{put(dir(path, r.Intn(3))), put(file(path, 0, fmt.Sprint(r.Intn(3)))), put(link(path, "t")), gone(path), cleared(path), cleared("")}[r.Intn(6)]
}

// someTree: what some entries make, one put behind the other.
func someTree(r *rand.Rand) []api.Entry {
	var tree []api.Entry
	for range r.Intn(30) {
		c := someChange(r)
		if c.Kind == api.Gone || c.Kind == api.Clear {
			c = put(dir(c.Path+"d", 0))
		}
		if next, err := modelPatch(tree, []api.Change{c}); err == nil {
			tree = next
		}
	}
	return tree
}

func TestP5P6ManyTrees(t *testing.T) {
	r := rand.New(rand.NewSource(1))
	for range 3000 {
		a, b := someTree(r), someTree(r)
		checkDiff(t, a, b, modelDiff(a, b)...)
		checkPatch(t, a, modelDiff(a, b), b...)
	}
}

func TestP6ManyChanges(t *testing.T) {
	r := rand.New(rand.NewSource(2))
	for range 20000 {
		var l []api.Change
		for range r.Intn(8) {
			l = append(l, someChange(r))
		}
		if r.Intn(4) != 0 {
			slices.SortStableFunc(l, func(x, y api.Change) int { return treeOrder(x.Path, y.Path) })
		}
		checkModel(t, someTree(r), l)
	}
}

// What Diff tells may be asked of Patch, whatever the trees are.
func TestP5TellsChanges(t *testing.T) {
	r := rand.New(rand.NewSource(3))
	for range 1000 {
		a, b := someTree(r), someTree(r)
		l, err := layers.Diff(a, b)
		if err != nil || !areChanges(l) || len(l) > api.MaxChanges {
			t.Errorf("P5: Diff(%v, %v): %v, %v; want changes", a, b, l, err)
		}
	}
}
