// Package layers: images that are built from build files, as layers in a store of blobs: see DOC.md.
package layers

import (
	"slices"

	"layers/api"
	"layers/archive"
	"layers/buildfile"
	"layers/builds"
	"layers/changes"
	"layers/images"
	"layers/paths"
	"layers/store"
	"layers/trees"
)

// Resolve tells the path that a text names (P3).
func Resolve(work string, path string) (string, error) { return paths.Resolve(work, path) }

// Sum tells a tree's sum (P4).
func Sum(l []api.Entry) (string, error) {
	root, err := trees.Of(l)
	if err != nil {
		return "", err
	}
	return root.Sum(), nil
}

// Diff tells what makes one tree of another (P5).
func Diff(a []api.Entry, b []api.Entry) ([]api.Change, error) {
	old, err := trees.Of(a)
	if err != nil {
		return nil, err
	}
	now, err := trees.Of(b)
	if err != nil {
		return nil, err
	}
	return changes.Diff(old, now), nil
}

// Patch does changes on a tree (P6).
func Patch(a []api.Entry, l []api.Change) ([]api.Entry, error) {
	root, err := trees.Of(a)
	if err != nil {
		return nil, err
	}
	if err := changes.Patch(root, l); err != nil {
		return nil, err
	}
	return root.List(), nil
}

// Pack makes an archive of changes (P7).
func Pack(l []api.Change) (string, error) { return archive.Pack(l) }

// Unpack tells what an archive says (P8).
func Unpack(s string) ([]api.Change, error) { return archive.Unpack(s) }

// Parse tells a build file's one form (P10).
func Parse(text string) (string, error) {
	f, err := read(text, buildfile.Read)
	if err != nil {
		return "", err
	}
	return f.Form(), nil
}

// Plan tells the stages that are needed (P11).
func Plan(text string) ([]int, error) {
	f, err := read(text, buildfile.Read)
	if err != nil {
		return nil, err
	}
	return f.Needed(), nil
}

// Make tells what a build file means (P12).
func Make(text string, context []api.Entry) (api.Image, error) {
	f, root, err := readBuild(text, context)
	if err != nil {
		return api.Image{}, err
	}
	last, err := f.Make(root, buildfile.Turn.Do)
	if err != nil {
		return api.Image{}, err
	}
	return last.Image(), nil
}

// readBuild tells what a build file says, and the root of a context.
func readBuild(text string, context []api.Entry) (*buildfile.File, *trees.Node, error) {
	f, err := read(text, buildfile.Read)
	if err != nil {
		return nil, nil, err
	}
	root, err := trees.Of(context)
	if err != nil {
		return nil, nil, err
	}
	return f, root, nil
}

// Store is files of blobs and of a cache.
type Store struct {
	files *store.Store
}

// New makes a store of files (P13).
func New(files []api.Blob, quota int) (*Store, error) {
	l, err := store.New(files, quota)
	if err != nil {
		return nil, err
	}
	return &Store{files: l}, nil
}

// Acts tells what was done to the files (P13).
func (s *Store) Acts() []api.Act { return s.files.Acts() }

// Files tells all files (P13).
func (s *Store) Files() []api.Blob { return s.files.Files() }

// Put keeps a blob (P14).
func (s *Store) Put(data string) (string, error) { return s.files.Put(data) }

// Get tells a blob's bytes (P14).
func (s *Store) Get(digest string) (string, error) { return s.files.Get(digest) }

// Drop removes a file (P14).
func (s *Store) Drop(name string) error { return s.files.Drop(name) }

// Build builds a build file (P16, P17).
func (s *Store) Build(text string, context []api.Entry) (api.Built, error) {
	f, root, err := readBuild(text, context)
	if err != nil {
		return api.Built{}, err
	}
	return builds.Build(s.files, f, root)
}

// Load tells the image of a manifest (P18).
func (s *Store) Load(digest string) (api.Image, error) {
	m, err := readBlob(s.files, digest, images.ReadManifest)
	if err != nil {
		return api.Image{}, err
	}
	c, err := readBlob(s.files, m.Config, images.ReadConfig)
	if err != nil {
		return api.Image{}, err
	}
	if !slices.Equal(c.Layers, m.Layers) {
		return api.Image{}, api.ErrImage
	}
	root := trees.New()
	for _, layer := range m.Layers {
		if err := builds.Lay(s.files, root, layer); err != nil {
			return api.Image{}, err
		}
	}
	return api.Image{Env: c.Env, Work: c.Work, Tree: root.List()}, nil
}

// readBlob tells what a blob says.
func readBlob[T any](files *store.Store, sum string, by func(text string) T) (said T, err error) {
	text, err := files.Get(sum)
	if err != nil {
		return said, err
	}
	return read(text, by)
}
