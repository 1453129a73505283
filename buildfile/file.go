// Package buildfile: what build files say, as instructions in stages, and what they mean.
package buildfile

import (
	"strings"

	"layers/api"
	"layers/words"
)

// none is the number of no stage.
const none = -1

// File is what a build file says: its stages, in order. There is at least one.
type File struct {
	Stages []Stage
}

// Stage: its name, which may be empty, and its instructions, the FROM first.
type Stage struct {
	Name         string
	Instructions []Instruction
}

// Instruction: its words, its own first, the number of the stage that it begins with or copies from, and its rule.
type Instruction struct {
	Words []words.Word
	Stage int
	rule  rule
}

// Read tells what a text says. It panics with a words.Wrong, if the text is no build file.
func Read(text string) *File {
	f := &File{}
	r := words.NewReader(text)
	for r.More() {
		// A line is read whole before the next one: what is wrong in it goes first.
		if l := r.Line(); len(l) > 0 {
			f.take(&Instruction{Words: l, Stage: none})
		}
	}
	if len(f.Stages) == 0 {
		words.Fail(api.ErrSyntax, len(text))
	}
	return f
}

// take reads one instruction more, and puts it into the last stage, which is a new one, if it is a FROM.
func (f *File) take(in *Instruction) {
	in.rule = f.ruleFor(in)
	in.rule.read(f, in)
	f.checkVariables(in)
	if f.size() >= api.MaxSteps {
		words.Fail(api.ErrBound, in.Place())
	}
	s := f.last()
	s.Instructions = append(s.Instructions, *in)
}

// ruleFor tells the rule of an instruction that may stand here and has as many words as it may.
func (f *File) ruleFor(in *Instruction) rule {
	r, ok := ruleOf(in.Words[0])
	behind := len(in.Words) - 1
	if !ok || behind < r.least || behind > r.most || len(f.Stages) == 0 && !in.is(fromWord) {
		words.Fail(api.ErrSyntax, in.Place())
	}
	return r
}

// checkVariables looks at all words. Those of a FROM are plain by now.
func (f *File) checkVariables(in *Instruction) {
	for _, w := range in.Words {
		for _, p := range w.Parts {
			if p.IsVariable && !f.isSet(p.Text) {
				words.Fail(api.ErrVar, p.Place)
			}
		}
	}
}

// isSet tells whether the last stage so far has a variable, of its own or from a stage that it begins with.
func (f *File) isSet(name string) bool {
	for i := len(f.Stages) - 1; i != none; i = f.Stages[i].base() {
		if f.Stages[i].sets(name) {
			return true
		}
	}
	return false
}

// size tells how many instructions there are so far.
func (f *File) size() int {
	n := 0
	for _, s := range f.Stages {
		n += len(s.Instructions)
	}
	return n
}

func (f *File) last() *Stage {
	return &f.Stages[len(f.Stages)-1]
}

// Form tells the one form of a build file.
func (f *File) Form() string {
	var b strings.Builder
	for _, s := range f.Stages {
		for _, in := range s.Instructions {
			b.WriteString(in.form() + "\n")
		}
	}
	return b.String()
}

// Needed tells the numbers of the stages that the last one needs, and its own, rising. Since a stage names only those ahead of it, one way through from the end finds all.
func (f *File) Needed() []int {
	needed := make([]bool, len(f.Stages))
	needed[len(f.Stages)-1] = true
	for i := len(f.Stages) - 1; i >= 0; i-- {
		for _, in := range f.Stages[i].Instructions {
			if needed[i] && in.Stage != none {
				needed[in.Stage] = true
			}
		}
	}
	var l []int
	for i, is := range needed {
		if is {
			l = append(l, i)
		}
	}
	return l
}

// base tells the number of the stage that a stage begins with. A stage that is just begun has not even its FROM, and no variable is asked for there.
func (s Stage) base() int {
	return s.Instructions[0].Stage
}

// sets tells whether a stage has an ENV of this variable.
func (s Stage) sets(name string) bool {
	for _, in := range s.Instructions {
		if in.is(envWord) && in.Words[1].Is(name) {
			return true
		}
	}
	return false
}

// Place tells where an instruction begins.
func (in Instruction) Place() int {
	return in.Words[0].Place
}

func (in Instruction) is(word string) bool {
	return in.Words[0].Is(word)
}

func (in Instruction) form() string {
	var l []string
	for _, w := range in.Words {
		l = append(l, w.Form())
	}
	return strings.Join(l, " ")
}
