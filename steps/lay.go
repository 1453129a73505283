package steps

import (
	"layers/api"
	"layers/paths"
)

// madeMode is the mode of directories that are made.
const madeMode = 0755

// makeDir puts directories where none are on the way to a path, and there.
func (s *State) makeDir(path string) error {
	if !paths.Is(path) {
		return api.ErrPath
	}
	at := paths.Root
	for _, name := range paths.Elements(path) {
		at = paths.Join(at, name)
		n := s.root.Find(at)
		if n == nil {
			s.root.Put(api.Entry{Path: at, Kind: api.Dir, Mode: madeMode})
		} else if !n.IsDir() {
			return api.ErrKind
		}
	}
	return nil
}

// lay puts an entry, but no directory where something else is, nor something else where a directory is.
func (s *State) lay(e api.Entry) error {
	n := s.root.Find(e.Path)
	if n != nil && n.IsDir() != (e.Kind == api.Dir) {
		return api.ErrKind
	}
	if !paths.Is(e.Path) {
		return api.ErrPath
	}
	// What it is in is there by now, since it was made or laid ahead of it.
	if !s.root.Put(e) {
		return api.ErrKind
	}
	return nil
}

// layInMade makes what an entry is in, and lays it.
func (s *State) layInMade(e api.Entry) error {
	dir, _ := paths.Last(e.Path)
	if err := s.makeDir(dir); err != nil {
		return err
	}
	return s.lay(e)
}
