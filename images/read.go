package images

import (
	"strconv"
	"strings"

	"layers/api"
	"layers/digest"
	"layers/paths"
	"layers/words"
)

// equals stands between the name of a variable and its value.
const equals = "="

// Wrong is of a text that is no manifest, or no config, and tells how far it was read. Reading panics with it: whoever asks for a text to be read has to catch it.
type Wrong struct {
	Place int
}

// Error tells what is wrong, and where.
func (w *Wrong) Error() string {
	return "image: " + w.Unwrap().Error() + " at byte " + strconv.Itoa(w.Place)
}

// Unwrap is the error without its place.
func (w *Wrong) Unwrap() error { return api.ErrImage }

// ReadManifest tells what a manifest says. It panics with a Wrong, if the text is none, byte by byte.
func ReadManifest(text string) Manifest {
	r := &reader{text: text}
	m := Manifest{}
	r.expect(configField)
	m.Config = r.digest()
	r.expect(layersField)
	m.Layers = list(r, (*reader).digest)
	r.expect(ending)
	r.expectEnd()
	return m
}

// ReadConfig tells what a config says. It panics with a Wrong, if the text is none, byte by byte.
func ReadConfig(text string) Config {
	r := &reader{text: text}
	c := Config{}
	r.expect(envField)
	c.Env = r.env()
	r.expect(layersField)
	c.Layers = list(r, (*reader).digest)
	r.expect(workField)
	c.Work = r.work()
	r.expect(ending)
	r.expectEnd()
	return c
}

// reader goes through a text.
type reader struct {
	text string
	at   int
}

// list reads what stands between brackets, with a comma between each two: each by the same function.
func list[T any](r *reader, one func(*reader) T) []T {
	r.expect(listBeginning)
	if r.take(listEnding) {
		return nil
	}
	l := []T{one(r)}
	for r.take(comma) {
		l = append(l, one(r))
	}
	r.expect(listEnding)
	return l
}

// variable of a config.
type variable struct {
	name, value string
}

// env reads variables, which rise by their names. As texts they need not: `=` is greater than a digit.
func (r *reader) env() []string {
	var l []string
	ahead := ""
	for _, v := range list(r, (*reader).variable) {
		if v.name <= ahead {
			r.fail()
		}
		ahead = v.name
		l = append(l, v.name+equals+v.value)
	}
	return l
}

func (r *reader) variable() variable {
	name, value, ok := strings.Cut(r.quoted(), equals)
	if !ok || !words.IsVariable(name) || !isValue(value) {
		r.fail()
	}
	return variable{name, value}
}

// isValue tells whether a variable of a build file may have this value.
func isValue(s string) bool {
	for i := range len(s) {
		if s[i] < 32 || s[i] > 126 {
			return false
		}
	}
	return len(s) <= api.MaxValue
}

func (r *reader) digest() string {
	s := r.quoted()
	if !digest.Is(s) {
		r.fail()
	}
	return s
}

// work reads a path with a slash ahead.
func (r *reader) work() string {
	s := r.quoted()
	path, ok := strings.CutPrefix(s, paths.Slash)
	if !ok || !paths.Is(path) {
		r.fail()
	}
	return s
}

// quoted reads what stands between quotes. A backslash may stand only where it must: a text is written in one way.
func (r *reader) quoted() string {
	var b strings.Builder
	r.expect(quote)
	for !r.take(quote) {
		if r.take(backslash) && !isEscaped(r.rest()) || r.rest() == "" {
			r.fail()
		}
		b.WriteByte(r.text[r.at])
		r.at++
	}
	return b.String()
}

// expect reads a text that has to come next.
func (r *reader) expect(s string) {
	if !r.take(s) {
		r.fail()
	}
}

func (r *reader) expectEnd() {
	if r.rest() != "" {
		r.fail()
	}
}

// take reads a text, if that is what comes next.
func (r *reader) take(s string) bool {
	if !strings.HasPrefix(r.rest(), s) {
		return false
	}
	r.at += len(s)
	return true
}

func (r *reader) rest() string {
	return r.text[r.at:]
}

func (r *reader) fail() {
	panic(&Wrong{Place: r.at})
}
