// Package words: the lines of a build file's text, as words. What is wrong in a text is told by a panic with a Wrong.
package words

import (
	"strings"

	"layers/api"
)

const (
	blank     = " "
	newline   = "\n"
	backslash = `\`
	quote     = `"`
	dollar    = "$"
	comment   = "#"
	// goesOn is a blank with which a line does not end where its text does.
	goesOn = backslash + newline
	// escapable is what a backslash between quotes may have behind it.
	escapable = quote + backslash + dollar
)

// Reader goes through a text.
type Reader struct {
	text string
	at   int
}

// NewReader begins to read a text. It panics, if the text is too long, or has bytes that no build file has.
func NewReader(text string) *Reader {
	if len(text) > api.MaxText {
		Fail(api.ErrBound, api.MaxText)
	}
	for i := range len(text) {
		if !mayStand(text[i]) {
			Fail(api.ErrSyntax, i)
		}
	}
	return &Reader{text: text}
}

func mayStand(c byte) bool {
	return c == '\n' || 32 <= c && c <= 126
}

// More tells whether there is something left to read.
func (r *Reader) More() bool {
	return r.at < len(r.text)
}

// Line reads one line, and tells its words: none, if it says nothing, or is a comment.
func (r *Reader) Line() []Word {
	var l []Word
	r.skipBlanks()
	if r.begins(comment) {
		r.skipComment()
	}
	for r.More() && !r.take(newline) {
		l = append(l, r.word())
		r.skipBlanks()
	}
	return l
}

func (r *Reader) skipBlanks() {
	for r.take(blank) || r.take(goesOn) {
	}
}

// skipComment goes to the newline: a comment does not go on behind it, even with a backslash.
func (r *Reader) skipComment() {
	said, _, _ := strings.Cut(r.rest(), newline)
	r.at += len(said)
}

func (r *Reader) word() Word {
	w := Word{Place: r.at}
	for !r.endsWord() {
		switch {
		case r.begins(quote):
			r.quoted(&w)
		case r.begins(dollar):
			r.variable(&w)
		case r.begins(backslash):
			r.escaped(&w)
		default:
			r.itself(&w)
		}
	}
	return w
}

func (r *Reader) endsWord() bool {
	return !r.More() || r.begins(blank) || r.begins(newline) || r.begins(goesOn)
}

// quoted reads what stands between quotes, and these.
func (r *Reader) quoted(w *Word) {
	begin := r.at
	r.at++
	for !r.take(quote) {
		switch {
		case !r.More() || r.begins(newline):
			Fail(api.ErrSyntax, begin)
		case r.begins(dollar):
			r.variable(w)
		case r.begins(backslash):
			r.escapedInQuotes(w)
		default:
			r.itself(w)
		}
	}
}

// escaped reads a backslash and the byte behind it, which is no newline: that would have ended the word.
func (r *Reader) escaped(w *Word) {
	if len(r.rest()) < 2 {
		Fail(api.ErrSyntax, r.at)
	}
	r.at++
	r.itself(w)
}

func (r *Reader) escapedInQuotes(w *Word) {
	behind := r.rest()[1:]
	if behind == "" || strings.IndexByte(escapable, behind[0]) < 0 {
		Fail(api.ErrSyntax, r.at)
	}
	r.at++
	r.itself(w)
}

// variable reads a `$` and the name behind it, with braces or without.
func (r *Reader) variable(w *Word) {
	place := r.at
	r.at++
	braced := r.take("{")
	name := r.rest()[:nameSize(r.rest())]
	r.at += len(name)
	if !IsVariable(name) || braced && !r.take("}") {
		Fail(api.ErrSyntax, place)
	}
	w.addVariable(name, place)
}

// itself reads a byte that stands for itself.
func (r *Reader) itself(w *Word) {
	w.addText(r.text[r.at : r.at+1])
	r.at++
}

// take reads a text, if that is what comes next.
func (r *Reader) take(s string) bool {
	if !r.begins(s) {
		return false
	}
	r.at += len(s)
	return true
}

func (r *Reader) begins(s string) bool {
	return strings.HasPrefix(r.rest(), s)
}

func (r *Reader) rest() string {
	return r.text[r.at:]
}
