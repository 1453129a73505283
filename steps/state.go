// Package steps: what instructions do on the tree, the variables and the directory of a stage.
package steps

import (
	"slices"
	"strings"

	"layers/api"
	"layers/paths"
	"layers/trees"
)

// State is what the instructions of a stage have come to.
type State struct {
	root *trees.Node
	work string
	env  []variable // by rising names, each once
}

type variable struct {
	name, value string
}

// New is a state from which nothing was done.
func New() *State {
	return &State{root: trees.New(), work: paths.Root}
}

// Tree tells the root of the tree.
func (s *State) Tree() *trees.Node {
	return s.root
}

// Value tells a variable's value; an empty one, if it is not set.
func (s *State) Value(name string) string {
	i, ok := s.findVariable(name)
	if !ok {
		return ""
	}
	return s.env[i].value
}

// findVariable tells where a variable stands, or would have to.
func (s *State) findVariable(name string) (int, bool) {
	return slices.BinarySearchFunc(s.env, name, func(v variable, name string) int {
		return strings.Compare(v.name, name)
	})
}

// Image tells the variables, the directory and the tree, in memory of their own.
func (s *State) Image() api.Image {
	var env []string
	for _, v := range s.env {
		env = append(env, v.name+"="+v.value)
	}
	return api.Image{Env: env, Work: paths.Slash + s.work, Tree: s.root.List()}
}

// CheckBound tells ErrBound, if the tree has too many entries.
func (s *State) CheckBound() error {
	if s.root.Below() > api.MaxEntries {
		return api.ErrBound
	}
	return nil
}

// resolve tells the path that a word names in the directory.
func (s *State) resolve(word string) (string, error) {
	return paths.Resolve(s.work, word)
}
