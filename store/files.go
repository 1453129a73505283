// Package store: files under names, what is done to them, act by act, and the blobs among them, under their digests.
package store

import (
	"maps"
	"slices"
	"strings"

	"layers/api"
	"layers/digest"
)

// What a file is of, by what its name begins with; the digest stands behind that.
const (
	blobs = "b/"
	cache = "c/"
	// passing is of files that have not been renamed yet: none is there between two calls.
	passing = "t/"
)

// Store is files, by their names, how many bytes they may have in all, and what was done to them and not told yet.
type Store struct {
	files map[string]api.Blob
	quota int
	acts  []api.Act
}

// New makes a store of files (P13). What had not been renamed when a machine stopped is of no use any more.
func New(files []api.Blob, quota int) (*Store, error) {
	s := &Store{files: map[string]api.Blob{}, quota: quota}
	for i, f := range files {
		if s.has(f.Name) || !isName(f.Name) {
			return nil, &api.At{Err: api.ErrFiles, Place: i}
		}
		f = cloned(f)
		s.files[f.Name] = f
	}
	if quota < 0 || quota > api.MaxQuota {
		return nil, api.ErrBound
	}
	for _, name := range s.names() {
		if strings.HasPrefix(name, passing) {
			s.remove(name)
		}
	}
	return s, nil
}

func isName(s string) bool {
	for _, begin := range []string{blobs, cache, passing} {
		if behind, ok := strings.CutPrefix(s, begin); ok {
			return digest.Is(behind)
		}
	}
	return false
}

// Files tells all files, by rising names.
func (s *Store) Files() []api.Blob {
	var l []api.Blob
	for _, name := range s.names() {
		l = append(l, cloned(s.files[name]))
	}
	return l
}

// Acts tells what was done since it was asked last, and forgets it: the list is the asker's own from then on.
func (s *Store) Acts() []api.Act {
	l := s.acts
	s.acts = nil
	for i, a := range l {
		l[i].Name = strings.Clone(a.Name)
		l[i].To = strings.Clone(a.To)
		l[i].Data = strings.Clone(a.Data)
	}
	return l
}

// keep gives a name these bytes: never less than the old or the new ones are there, whenever the machine stops, since they are safe under another name first.
func (s *Store) keep(name, data string) error {
	if s.sizeWithout(name)+len(data) > s.quota {
		return api.ErrFull
	}
	before := passing + name[len(passing):]
	s.write(before, strings.Clone(data))
	s.sync(before)
	s.rename(before, name)
	s.syncNames()
	return nil
}

// sizeWithout tells how many bytes all files but one have.
func (s *Store) sizeWithout(name string) int {
	size := 0
	for _, f := range s.files {
		size += len(f.Data)
	}
	return size - len(s.files[name].Data)
}

func (s *Store) has(name string) bool {
	_, ok := s.files[name]
	return ok
}

// names are those of all files, rising.
func (s *Store) names() []string {
	return slices.Sorted(maps.Keys(s.files))
}

func (s *Store) write(name, data string) {
	s.files[name] = api.Blob{Name: name, Data: data}
	s.tell(api.Act{What: api.Write, Name: name, Data: data})
}

func (s *Store) sync(name string) {
	s.tell(api.Act{What: api.Sync, Name: name})
}

func (s *Store) rename(name, to string) {
	s.files[to] = api.Blob{Name: to, Data: s.files[name].Data}
	delete(s.files, name)
	s.tell(api.Act{What: api.Rename, Name: name, To: to})
}

func (s *Store) syncNames() {
	s.tell(api.Act{What: api.SyncDir})
}

func (s *Store) remove(name string) {
	delete(s.files, name)
	s.tell(api.Act{What: api.Remove, Name: name})
}

func (s *Store) tell(a api.Act) {
	s.acts = append(s.acts, a)
}

// cloned tells a file with bytes of its own: what was handed in is not kept, and what is kept is not handed out.
func cloned(f api.Blob) api.Blob {
	return api.Blob{Name: strings.Clone(f.Name), Data: strings.Clone(f.Data)}
}
