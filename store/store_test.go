package store

import (
	"strings"
	"testing"
	"unsafe"

	"layers/api"
	"layers/digest"
)

// inside: all texts that a store keeps.
func inside(s *Store) []string {
	var l []string
	for name, f := range s.files {
		l = append(l, name, f.Name, f.Data)
	}
	for _, a := range s.acts {
		l = append(l, a.Name, a.To, a.Data)
	}
	return l
}

// checkApart: no text is in both lists, as memory.
func checkApart(t *testing.T, a, b []string) {
	t.Helper()
	for _, x := range a {
		for _, y := range b {
			if x != "" && y != "" && unsafe.StringData(x) == unsafe.StringData(y) {
				t.Errorf("%q is kept and handed in or out", x)
			}
		}
	}
}

// A store keeps nothing that was handed in, and hands nothing out that it keeps.
func TestTextsAreItsOwn(t *testing.T) {
	files := []api.Blob{
		{Name: blobs + digest.Of("some"), Data: "some"},
		{Name: cache + digest.Of("other"), Data: "more"},
		{Name: passing + digest.Of("other"), Data: "passing"},
	}
	data, name := strings.Repeat("data", 2), strings.Clone(files[1].Name)
	outside := []string{data, name}
	for _, f := range files {
		outside = append(outside, f.Name, f.Data)
	}
	s, err := New(files, 100)
	if err != nil {
		t.Fatal(err)
	}
	sum, err := s.Put(data)
	if err != nil {
		t.Fatal(err)
	}
	got, err := s.Get(sum)
	if err != nil {
		t.Fatal(err)
	}
	key, entry := digest.Of("key"), strings.Repeat("entry", 2)
	if err := s.KeepCached(key, entry); err != nil {
		t.Fatal(err)
	}
	cached, ok := s.Cached(key)
	if !ok || cached != entry {
		t.Fatal(cached, ok)
	}
	outside = append(outside, sum, got, key, entry, cached)
	if err := s.Drop(name); err != nil {
		t.Fatal(err)
	}
	checkApart(t, inside(s), outside)
	for _, a := range s.Acts() {
		outside = append(outside, a.Name, a.To, a.Data)
	}
	for _, f := range s.Files() {
		outside = append(outside, f.Name, f.Data)
	}
	checkApart(t, inside(s), outside)
}

// Once told, what was done is not kept any more.
func TestActsAreForgotten(t *testing.T) {
	s, err := New(nil, 100)
	if err != nil {
		t.Fatal(err)
	}
	s.Put("a")
	if len(s.Acts()) != 4 || s.acts != nil {
		t.Errorf("%d acts are kept", len(s.acts))
	}
}

// The cache has files of its own, beside the blobs, and takes of the same room.
func TestCache(t *testing.T) {
	s, err := New(nil, 10)
	if err != nil {
		t.Fatal(err)
	}
	key, err := s.Put("blob")
	if err != nil {
		t.Fatal(err)
	}
	if data, ok := s.Cached(key); ok || data != "" {
		t.Errorf("%q, %v: in the cache without being kept", data, ok)
	}
	s.Acts()
	for _, data := range []string{"", "123456", "other"} {
		if err := s.KeepCached(key, data); err != nil {
			t.Errorf("%q is not kept: %v", data, err)
		}
		if got, ok := s.Cached(key); !ok || got != data {
			t.Errorf("%q, %v; want %q", got, ok, data)
		}
		if l := s.Acts(); len(l) != 4 || l[0].Name != passing+key || l[2].To != cache+key {
			t.Errorf("%v", l)
		}
	}
	if err := s.KeepCached(key, "1234567"); err != api.ErrFull {
		t.Errorf("%v; want ErrFull", err)
	}
	if got, _ := s.Cached(key); got != "other" {
		t.Errorf("%q is there; want what was there", got)
	}
}
