package store

import (
	"strings"

	"layers/api"
	"layers/digest"
)

// Put keeps a blob and tells its digest (P14). One that is there is kept anew, if its bytes are not the right ones.
func (s *Store) Put(data string) (string, error) {
	sum := digest.Of(data)
	if _, ok := s.blob(sum); ok {
		return sum, nil
	}
	if err := s.keep(blobs+sum, data); err != nil {
		return "", err
	}
	return sum, nil
}

// Get tells a blob's bytes (P14).
func (s *Store) Get(sum string) (string, error) {
	data, ok := s.blob(sum)
	if !ok {
		return "", api.ErrNone
	}
	return strings.Clone(data), nil
}

// blob tells the bytes that have this digest; false, if there are none, or others in their place.
func (s *Store) blob(sum string) (string, bool) {
	f, ok := s.files[blobs+sum]
	return f.Data, ok && digest.Of(f.Data) == sum
}

// Drop removes a file, of whatever kind (P14).
func (s *Store) Drop(name string) error {
	f, ok := s.files[name]
	if !ok {
		return api.ErrNone
	}
	// The file's own name is told, not the text that was handed in, which may not be kept.
	s.remove(f.Name)
	return nil
}
