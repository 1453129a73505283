package buildfile

import (
	"strings"

	"layers/api"
	"layers/words"
)

const (
	asWord = "AS"
	// scratch is what a stage begins with that begins with none.
	scratch = "scratch"
	// fromFlag begins the word of a COPY that names a stage.
	fromFlag = "--from="
	// modeSize is how many digits a mode has.
	modeSize = 3
)

// readFrom begins a stage.
func (f *File) readFrom(in *Instruction) {
	base, name := namesOf(in.Words)
	if base != scratch {
		in.Stage = f.find(base)
		if in.Stage == none {
			words.Fail(api.ErrStage, in.Words[1].Place)
		}
	}
	if name == scratch || name != "" && f.find(name) != none {
		words.Fail(api.ErrStage, in.Words[3].Place)
	}
	if len(f.Stages) >= api.MaxStages {
		words.Fail(api.ErrBound, in.Place())
	}
	f.Stages = append(f.Stages, Stage{Name: name})
}

// namesOf tells what a FROM begins with, and its own name, which is empty if there is none; it looks at their form alone, whatever stages there are.
func namesOf(l []words.Word) (string, string) {
	if len(l) > 2 && !l[2].Is(asWord) {
		words.Fail(api.ErrSyntax, l[2].Place)
	}
	if len(l) == 3 {
		words.Fail(api.ErrSyntax, l[0].Place)
	}
	name := ""
	if len(l) == 4 {
		name = stageName(l[3])
	}
	return stageName(l[1]), name
}

func stageName(w words.Word) string {
	s, ok := w.Plain()
	if !ok || !isStageName(s) {
		words.Fail(api.ErrSyntax, w.Place)
	}
	return s
}

// find tells the number of the stage of this name; none, if there is no such stage so far.
func (f *File) find(name string) int {
	for i, s := range f.Stages {
		if s.Name == name {
			return i
		}
	}
	return none
}

// readCopy looks for the stage that is copied from. It may not be the one in which the COPY stands.
func (f *File) readCopy(in *Instruction) {
	w := in.Words[1]
	name, named := stageOf(w)
	if named != (len(in.Words) == 4) {
		words.Fail(api.ErrSyntax, in.Place())
	}
	if !named {
		return
	}
	if !isStageName(name) {
		words.Fail(api.ErrSyntax, w.Place)
	}
	in.Stage = f.find(name)
	if in.Stage == none || in.Stage == len(f.Stages)-1 {
		words.Fail(api.ErrStage, w.Place)
	}
}

// stageOf tells what the first word behind a COPY names as a stage; false, if it is no such word.
func stageOf(w words.Word) (string, bool) {
	s, ok := w.Plain()
	if !ok {
		return "", false
	}
	return strings.CutPrefix(s, fromFlag)
}

// readMkdir looks at the mode, if there is one.
func (f *File) readMkdir(in *Instruction) {
	if len(in.Words) < 3 {
		return
	}
	if s, ok := in.Words[2].Plain(); !ok || !isMode(s) {
		words.Fail(api.ErrSyntax, in.Words[2].Place)
	}
}

func (f *File) readEnv(in *Instruction) {
	if s, ok := in.Words[1].Plain(); !ok || !words.IsVariable(s) {
		words.Fail(api.ErrSyntax, in.Words[1].Place)
	}
}

// readAny is of instructions whose words may be any.
func (f *File) readAny(*Instruction) {}

func isStageName(s string) bool {
	if s == "" || len(s) > api.MaxVar || !isSmall(s[0]) {
		return false
	}
	for i := range len(s) {
		if !isSmall(s[i]) && (s[i] < '0' || s[i] > '9') {
			return false
		}
	}
	return true
}

func isSmall(c byte) bool {
	return 'a' <= c && c <= 'z'
}

func isMode(s string) bool {
	if len(s) != modeSize {
		return false
	}
	for i := range len(s) {
		if s[i] < '0' || s[i] > '7' {
			return false
		}
	}
	return true
}
