// Package builds: build files that are built step by step, as layers in a store, with what its cache has of steps that were done before.
package builds

import (
	"layers/api"
	"layers/archive"
	"layers/buildfile"
	"layers/changes"
	"layers/images"
	"layers/steps"
	"layers/store"
	"layers/trees"
)

// builder is what there is while a build file is built: where layers go, and of each step so far, whether it was found.
type builder struct {
	files *store.Store
	hits  []bool
}

// Build builds a build file with a context, by its root (P16, P17).
func Build(files *store.Store, f *buildfile.File, context *trees.Node) (api.Built, error) {
	b := &builder{files: files}
	last, err := f.Make(context, b.do)
	if err != nil {
		return api.Built{}, err
	}
	manifest, err := b.putImage(last)
	if err != nil {
		return api.Built{}, err
	}
	return api.Built{Manifest: manifest, Layers: last.Layers(), Hits: b.hits}, nil
}

// putImage puts the config of a stage, and then the manifest, which is never there without it, and tells the manifest's digest.
func (b *builder) putImage(s *steps.State) (string, error) {
	config := images.Config{Env: s.Env(), Layers: s.Layers(), Work: s.Work()}
	sum, err := b.files.Put(config.Text())
	if err != nil {
		return "", err
	}
	manifest := images.Manifest{Config: sum, Layers: s.Layers()}
	return b.files.Put(manifest.Text())
}

// do does an instruction; but a step is looked for in the cache first.
func (b *builder) do(t buildfile.Turn) error {
	if !t.IsStep() {
		return t.Do()
	}
	key := keyOf(t)
	layer, found := b.find(t, key)
	if !found {
		var err error
		if layer, err = b.doAnew(t, key); err != nil {
			return err
		}
	}
	t.State.AddLayer(layer)
	b.hits = append(b.hits, found)
	return nil
}

// doAnew does a step, and tells the digest of its layer. The layer is put ahead of what the cache says of it: when the machine stops between them, nothing leads to a layer that is not there.
func (b *builder) doAnew(t buildfile.Turn, key string) (string, error) {
	before := t.State.Tree().Clone()
	if err := t.Do(); err != nil {
		return "", err
	}
	now := t.State.Tree()
	data, err := archive.Pack(changes.Diff(before, now))
	if err != nil {
		return "", err
	}
	layer, err := b.files.Put(data)
	if err != nil {
		return "", err
	}
	known := entry{layer: layer, sum: now.Sum()}
	return layer, b.files.KeepCached(key, known.text())
}
