package store

import "strings"

// Cached tells the bytes that the cache has under a key; false, if there are none.
func (s *Store) Cached(key string) (string, bool) {
	f, ok := s.files[cache+key]
	return strings.Clone(f.Data), ok
}

// KeepCached keeps bytes in the cache, under a key that is a digest.
func (s *Store) KeepCached(key, data string) error {
	return s.keep(cache+key, data)
}
