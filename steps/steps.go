package steps

import (
	"slices"
	"strconv"
	"strings"

	"layers/api"
	"layers/archive"
	"layers/changes"
	"layers/paths"
	"layers/trees"
)

// Task is what an instruction asks for: its words, without its own and the stage that is named, with the values of variables set in; that stage, if there is one; and the tree that things are taken from, if they are.
type Task struct {
	Words  []string
	Stage  *State
	Source *trees.Node
}

// Begin has all that the stage has which is named, or nothing.
func (s *State) Begin(t Task) error {
	if t.Stage == nil {
		return nil
	}
	// Both stages go on by themselves: another one may begin with the same.
	s.root = t.Stage.root.Clone()
	s.work = t.Stage.work
	s.env = slices.Clone(t.Stage.env)
	s.layers = slices.Clone(t.Stage.layers)
	return nil
}

// Copy copies what is below a directory, or one thing that is none.
func (s *State) Copy(t Task) error {
	from, dst, err := s.ends(t)
	if err != nil {
		return err
	}
	if from.IsDir() {
		return s.copyBelow(from, dst)
	}
	if strings.HasSuffix(t.Words[1], paths.Slash) || s.root.Find(dst).IsDir() {
		_, name := paths.Last(from.Path)
		dst = paths.Join(dst, name)
	}
	return s.layInMade(moved(from.Entry, dst))
}

// ends tells what the first word names where things are taken from, and the path that the second one names.
func (s *State) ends(t Task) (*trees.Node, string, error) {
	src, err := paths.Resolve(paths.Root, t.Words[0])
	if err != nil {
		return nil, "", err
	}
	dst, err := s.Resolve(t.Words[1])
	if err != nil {
		return nil, "", err
	}
	from := t.Source.Find(src)
	if from == nil {
		return nil, "", api.ErrMissing
	}
	return from, dst, nil
}

func (s *State) copyBelow(from *trees.Node, dst string) error {
	if err := s.makeDir(dst); err != nil {
		return err
	}
	for n := range from.All() {
		if n == from {
			continue
		}
		if err := s.lay(moved(n.Entry, paths.Join(dst, paths.Behind(n.Path, from.Path)))); err != nil {
			return err
		}
	}
	return nil
}

func moved(e api.Entry, path string) api.Entry {
	e.Path = path
	return e
}

// Add lays all that an archive has. A mark has nothing to do there.
func (s *State) Add(t Task) error {
	from, dst, err := s.ends(t)
	if err != nil {
		return err
	}
	if from.Kind != api.File {
		return api.ErrKind
	}
	l, err := archive.Unpack(from.Data)
	if err != nil {
		return err
	}
	if err := s.makeDir(dst); err != nil {
		return err
	}
	for _, c := range l {
		if changes.IsMark(c) {
			return api.ErrTar
		}
		if err := s.layInMade(moved(api.Entry(c), paths.Join(dst, c.Path))); err != nil {
			return err
		}
	}
	return nil
}

// Remove takes away what is at a path, and all below it.
func (s *State) Remove(t Task) error {
	path, err := s.Resolve(t.Words[0])
	switch {
	case err != nil:
		return err
	case path == paths.Root:
		return api.ErrKind
	case s.root.Find(path) == nil:
		return api.ErrMissing
	}
	s.root.Remove(path)
	return nil
}

// Mkdir makes a directory, which has the mode that is told, if there is one.
func (s *State) Mkdir(t Task) error {
	path, err := s.Resolve(t.Words[0])
	if err != nil {
		return err
	}
	if err := s.makeDir(path); err != nil || len(t.Words) < 2 {
		return err
	}
	if path == paths.Root {
		return api.ErrKind
	}
	return s.lay(api.Entry{Path: path, Kind: api.Dir, Mode: octal(t.Words[1])})
}

// octal tells the number of a mode, which was found to be one when it was read.
func octal(digits string) int {
	n, _ := strconv.ParseInt(digits, 8, 0)
	return int(n)
}

// Link lays a Link.
func (s *State) Link(t Task) error {
	if !trees.IsTarget(t.Words[0]) {
		return api.ErrPath
	}
	path, err := s.Resolve(t.Words[1])
	if err != nil {
		return err
	}
	if path == paths.Root {
		return api.ErrKind
	}
	return s.layInMade(api.Entry{Path: path, Kind: api.Link, Data: t.Words[0]})
}

// SetVariable gives a variable a value, in the place of the one it had.
func (s *State) SetVariable(t Task) error {
	v := variable{name: t.Words[0], value: t.Words[1]}
	if i, ok := s.findVariable(v.name); ok {
		s.env[i] = v
	} else {
		s.env = slices.Insert(s.env, i, v)
	}
	return nil
}

// Enter makes a directory, and goes there.
func (s *State) Enter(t Task) error {
	path, err := s.Resolve(t.Words[0])
	if err != nil {
		return err
	}
	if err := s.makeDir(path); err != nil {
		return err
	}
	s.work = path
	return nil
}
