package builds

import (
	"layers/api"
	"layers/archive"
	"layers/changes"
	"layers/store"
	"layers/trees"
)

// Lay does on a tree, by its root, what a layer says: ErrNone, if the store has none of that digest; ErrImage, if it is no layer of this tree, which is of no more use then.
func Lay(files *store.Store, root *trees.Node, layer string) error {
	data, err := files.Get(layer)
	if err != nil {
		return err
	}
	l, err := archive.Unpack(data)
	if err != nil {
		return api.ErrImage
	}
	if err := changes.Patch(root, l); err != nil {
		return api.ErrImage
	}
	return nil
}
