package words

import (
	"strings"

	"layers/api"
)

// unchanged are the bytes, beside letters and digits, that the one form of a word has as they are.
const unchanged = "./_=:-"

// Word of a line: where it begins, and its parts.
type Word struct {
	Place int
	Parts []Part
}

// Part of a word: a text that stands for itself, or the name of a variable, and where its `$` is.
type Part struct {
	Text       string
	IsVariable bool
	Place      int
}

// addText goes on with the text ahead, if there is one, so that a text is one part however it is written.
func (w *Word) addText(s string) {
	if n := len(w.Parts); n > 0 && !w.Parts[n-1].IsVariable {
		w.Parts[n-1].Text += s
		return
	}
	w.Parts = append(w.Parts, Part{Text: s})
}

func (w *Word) addVariable(name string, place int) {
	w.Parts = append(w.Parts, Part{Text: name, IsVariable: true, Place: place})
}

// Plain tells the text of a word without variables; false, if it has some.
func (w Word) Plain() (string, bool) {
	switch {
	case len(w.Parts) == 0:
		return "", true
	case len(w.Parts) == 1 && !w.Parts[0].IsVariable:
		return w.Parts[0].Text, true
	}
	return "", false
}

// Is tells whether a word is plain and has this text.
func (w Word) Is(text string) bool {
	s, ok := w.Plain()
	return ok && s == text
}

// Filled tells a word with the values of its variables set in.
func (w Word) Filled(value func(name string) string) string {
	var b strings.Builder
	for _, p := range w.Parts {
		if p.IsVariable {
			b.WriteString(value(p.Text))
		} else {
			b.WriteString(p.Text)
		}
	}
	return b.String()
}

// Form tells a word in its one form.
func (w Word) Form() string {
	if len(w.Parts) == 0 {
		return TextForm("")
	}
	var b strings.Builder
	for _, p := range w.Parts {
		if p.IsVariable {
			b.WriteString("${" + p.Text + "}")
		} else {
			b.WriteString(TextForm(p.Text))
		}
	}
	return b.String()
}

// TextForm tells the one form of a word that stands for this text: it has a backslash ahead of all that may mean something else.
func TextForm(s string) string {
	if s == "" {
		return quote + quote
	}
	var b strings.Builder
	for i := range len(s) {
		if !isUnchanged(s[i]) {
			b.WriteString(backslash)
		}
		b.WriteByte(s[i])
	}
	return b.String()
}

func isUnchanged(c byte) bool {
	return isCapital(c) || isDigit(c) || 'a' <= c && c <= 'z' || strings.IndexByte(unchanged, c) >= 0
}

// IsVariable tells whether a text is the name of a variable.
func IsVariable(s string) bool {
	return s != "" && len(s) <= api.MaxVar && nameSize(s) == len(s)
}

// nameSize tells how many bytes at the beginning of a text are the name of a variable, were it not for the bound.
func nameSize(s string) int {
	if s == "" || !isCapital(s[0]) {
		return 0
	}
	for i := range len(s) {
		if !isCapital(s[i]) && !isDigit(s[i]) && s[i] != '_' {
			return i
		}
	}
	return len(s)
}

func isCapital(c byte) bool {
	return 'A' <= c && c <= 'Z'
}

func isDigit(c byte) bool {
	return '0' <= c && c <= '9'
}
