package images

import (
	"errors"
	"slices"
	"strings"
	"testing"

	"layers/api"
	"layers/digest"
)

// caught: what reading a text panics with.
func caught[T any](text string, read func(string) T) (p any) {
	defer func() { p = recover() }()
	read(text)
	return nil
}

// What is written is read as what it was.
func TestTexts(t *testing.T) {
	a, b := digest.Of("a"), digest.Of("b")
	for _, c := range []Config{
		{Work: "/"}, {Env: []string{"A="}, Work: "/a"}, {Env: []string{`A="\`, `B=\"`, "C= , "}, Layers: []string{a, b, a}, Work: "/a/b"},
	} {
		if got := ReadConfig(c.Text()); !slices.Equal(got.Env, c.Env) || !slices.Equal(got.Layers, c.Layers) || got.Work != c.Work {
			t.Errorf("of %s: %v; want %v", c.Text(), got, c)
		}
	}
	for _, m := range []Manifest{{Config: a}, {Config: a, Layers: []string{b}}, {Config: b, Layers: []string{a, b, b}}} {
		if got := ReadManifest(m.Text()); got.Config != m.Config || !slices.Equal(got.Layers, m.Layers) {
			t.Errorf("of %s: %v; want %v", m.Text(), got, m)
		}
	}
}

// What is wrong is told by an error of its own, which tells how far the text was read, and by no other panic.
func TestWrong(t *testing.T) {
	d := digest.Of("a")
	config := Config{Env: []string{`A=\"`, "B=x"}, Layers: []string{d, d}, Work: "/w"}.Text()
	manifest := Manifest{Config: d, Layers: []string{d, d}}.Text()
	check := func(text string, p any) {
		t.Helper()
		e, ok := p.(error)
		var w *Wrong
		if !ok || !errors.As(e, &w) || w.Place < 0 || w.Place > len(text) {
			t.Errorf("of %q: %v", text, p)
		} else if !errors.Is(e, api.ErrImage) || !strings.Contains(e.Error(), "byte") {
			t.Errorf("of %q: %v, without its number", text, e)
		}
	}
	for i := range len(config) {
		check(config[:i], caught(config[:i], ReadConfig))
		check(config[i+1:], caught(config[i+1:], ReadConfig))
	}
	for i := range len(manifest) {
		check(manifest[:i], caught(manifest[:i], ReadManifest))
		check(manifest[i+1:], caught(manifest[i+1:], ReadManifest))
	}
	check(manifest, caught(manifest, ReadConfig))
	check(config, caught(config, ReadManifest))
	if p := caught(config, ReadConfig); p != nil {
		t.Errorf("panic with %v", p)
	}
}

// A list has things of any kind, as many as there are.
func TestList(t *testing.T) {
	size := func(r *reader) int { return len(r.quoted()) }
	for text, want := range map[string][]int{"[]": nil, `[""]`: {0}, `["a"]`: {1}, `["ab","","\"","\\\\"]`: {2, 0, 1, 2}} {
		if got := list(&reader{text: text}, size); !slices.Equal(got, want) {
			t.Errorf("of %s: %v; want %v", text, got, want)
		}
	}
}
