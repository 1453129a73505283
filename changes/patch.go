package changes

import (
	"layers/api"
	"layers/trees"
)

// Patch does changes on a tree, by its root (P6). With an error the tree may be half changed: it is of no more use.
func Patch(root *trees.Node, l []api.Change) error {
	if err := Check(l); err != nil {
		return err
	}
	if err := checkMarks(root, l); err != nil {
		return err
	}
	doMarks(root, l)
	if err := putEntries(root, l); err != nil {
		return err
	}
	if root.Below() > api.MaxEntries {
		return api.ErrBound
	}
	return nil
}

// checkMarks holds all marks against the tree before one is done: what another mark takes away, or an entry puts there, does not count.
func checkMarks(root *trees.Node, l []api.Change) error {
	for i, c := range l {
		at := root.Find(c.Path)
		if c.Kind == api.Gone && at == nil || c.Kind == api.Clear && !at.IsDir() {
			return &api.At{Err: api.ErrMissing, Place: i}
		}
	}
	return nil
}

func doMarks(root *trees.Node, l []api.Change) {
	for _, c := range l {
		switch c.Kind {
		case api.Gone:
			root.Remove(c.Path)
		case api.Clear:
			root.Clear(c.Path)
		}
	}
}

func putEntries(root *trees.Node, l []api.Change) error {
	for i, c := range l {
		if !IsMark(c) && !root.Put(api.Entry(c)) {
			return &api.At{Err: api.ErrKind, Place: i}
		}
	}
	return nil
}
