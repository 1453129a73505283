// Package steps: what instructions do on the tree, the variables and the directory of a stage.
package steps

import (
	"slices"
	"strings"

	"layers/api"
	"layers/paths"
	"layers/trees"
)

// State is what the instructions of a stage have come to.
type State struct {
	root   *trees.Node
	work   string
	env    []variable // by rising names, each once
	layers []string   // by their digests, the first first
}

type variable struct {
	name, value string
}

// New is a state from which nothing was done.
func New() *State {
	return &State{root: trees.New(), work: paths.Root}
}

// Tree tells the root of the tree.
func (s *State) Tree() *trees.Node {
	return s.root
}

// Layers tells the digests of the layers that were added, the first first: of a stage that is made without a store there are none.
func (s *State) Layers() []string {
	return s.layers
}

// AddLayer adds a layer, by its digest.
func (s *State) AddLayer(sum string) {
	s.layers = append(s.layers, sum)
}

// Jump has the tree and the directory, by its path, to which a step leads that need not be done.
func (s *State) Jump(root *trees.Node, path string) {
	s.root = root
	s.work = path
}

// Value tells a variable's value; an empty one, if it is not set.
func (s *State) Value(name string) string {
	i, ok := s.findVariable(name)
	if !ok {
		return ""
	}
	return s.env[i].value
}

// findVariable tells where a variable stands, or would have to.
func (s *State) findVariable(name string) (int, bool) {
	return slices.BinarySearchFunc(s.env, name, func(v variable, name string) int {
		return strings.Compare(v.name, name)
	})
}

// Env tells the variables as NAME=value, by rising names.
func (s *State) Env() []string {
	var l []string
	for _, v := range s.env {
		l = append(l, v.name+"="+v.value)
	}
	return l
}

// Work tells the directory as images do, with a slash ahead of its path.
func (s *State) Work() string {
	return paths.Slash + s.work
}

// Image tells the variables, the directory and the tree, in memory of their own.
func (s *State) Image() api.Image {
	return api.Image{Env: s.Env(), Work: s.Work(), Tree: s.root.List()}
}

// CheckBound tells ErrBound, if the tree has too many entries.
func (s *State) CheckBound() error {
	if s.root.Below() > api.MaxEntries {
		return api.ErrBound
	}
	return nil
}

// Resolve tells the path that a word names in the directory.
func (s *State) Resolve(word string) (string, error) {
	return paths.Resolve(s.work, word)
}
