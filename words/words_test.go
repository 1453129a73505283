package words

import (
	"errors"
	"slices"
	"testing"

	"layers/api"
)

// caught: what reading a text panics with.
func caught(text string) (p any) {
	defer func() { p = recover() }()
	r := NewReader(text)
	for r.More() {
		r.Line()
	}
	return nil
}

// What is wrong is told by an error of its own, and by no other panic.
func TestWrong(t *testing.T) {
	for text, want := range map[string]Wrong{
		"a \"b":                             {api.ErrSyntax, 2},
		"a\n $":                             {api.ErrSyntax, 3},
		"a\x00":                             {api.ErrSyntax, 1},
		"\\":                                {api.ErrSyntax, 0},
		"\"a\\b\" \"":                       {api.ErrSyntax, 2},
		string(make([]byte, api.MaxText+1)): {api.ErrBound, api.MaxText},
	} {
		e, ok := caught(text).(error)
		var w *Wrong
		if !ok || !errors.As(e, &w) || *w != want {
			t.Errorf("of %.20q: %v; want %v", text, e, want)
			continue
		}
		if !errors.Is(e, want.Err) || e.Error() == "" {
			t.Errorf("of %.20q: %v, without its number", text, e)
		}
	}
	if p := caught("a \"b\" $A\n# $\n"); p != nil {
		t.Errorf("panic with %v", p)
	}
}

func TestLine(t *testing.T) {
	r := NewReader("# x\n\n a \\\n b$A\"c d\"${B}e\nf")
	var places []int
	var forms []string
	for r.More() {
		for _, w := range r.Line() {
			places = append(places, w.Place)
			forms = append(forms, w.Form())
		}
	}
	if !slices.Equal(places, []int{6, 11, 25}) || !slices.Equal(forms, []string{"a", `b${A}c\ d${B}e`, "f"}) {
		t.Errorf("words at %v: %q", places, forms)
	}
}

func TestWord(t *testing.T) {
	value := func(name string) string { return "<" + name + ">" }
	for text, want := range map[string]struct {
		plain  bool
		filled string
	}{
		`""`: {true, ""}, "a": {true, "a"}, `a"b"\c`: {true, "abc"}, `\$A`: {true, "$A"}, "$A": {false, "<A>"}, "a$A": {false, "a<A>"}, "${A}${B}": {false, "<A><B>"}, `"$A b"c`: {false, "<A> bc"},
	} {
		w := NewReader(text).Line()[0]
		s, ok := w.Plain()
		if ok != want.plain || ok && s != want.filled || w.Is(want.filled) != want.plain || w.Filled(value) != want.filled {
			t.Errorf("of %s: %q, %v, %q; want %v", text, s, ok, w.Filled(value), want)
		}
	}
}

func TestIsVariable(t *testing.T) {
	for s, want := range map[string]bool{"A": true, "Z_9": true, "ABCDEFGHIJ": true, "": false, "a": false, "_": false, "9": false, "Aa": false, "A ": false, "ABCDEFGHIJK": false} {
		if got := IsVariable(s); got != want {
			t.Errorf("IsVariable(%q): %v; want %v", s, got, want)
		}
	}
}

// The one form of a text is a plain word that stands for it, and is its own form.
func TestTextForm(t *testing.T) {
	all := ""
	for c := byte(32); c <= 126; c++ {
		all += string(c)
	}
	for text, want := range map[string]string{"": `""`, "a": "a", "./_=:-": "./_=:-", `$A "b" \`: `\$A\ \"b\"\ \\`, "#~+": `\#\~\+`, all: ""} {
		form := TextForm(text)
		if form != want && want != "" {
			t.Errorf("of %q: %s; want %s", text, form, want)
		}
		l := NewReader(form).Line()
		if len(l) != 1 || !l[0].Is(text) || l[0].Form() != form {
			t.Errorf("of %q: %s is %v", text, form, l)
		}
	}
}
