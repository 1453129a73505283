package buildfile

import (
	"strings"

	"layers/api"
	"layers/steps"
	"layers/words"
)

// Turn is an instruction whose turn has come: what the stage in which it stands has come to, and what it asks for there.
type Turn struct {
	State *steps.State
	Task  steps.Task
	in    Instruction
}

// Do does the instruction. An error has the place of the instruction.
func (t Turn) Do() error {
	if err := t.do(); err != nil {
		return placed(err, t.in)
	}
	return nil
}

func (t Turn) do() error {
	for _, w := range t.Task.Words {
		if len(w) > api.MaxValue {
			return api.ErrBound
		}
	}
	if err := t.in.rule.do(t.State, t.Task); err != nil {
		return err
	}
	return t.State.CheckBound()
}

// IsStep tells whether the instruction makes a layer: a FROM and an ENV change no file.
func (t Turn) IsStep() bool {
	return !t.in.is(fromWord) && !t.in.is(envWord)
}

// Form tells the instruction in its one form, with values set in. The stage that is named is left out: what it has counts, not its name.
func (t Turn) Form() string {
	l := []string{t.in.Words[0].Form()}
	for _, w := range t.Task.Words {
		l = append(l, words.TextForm(w))
	}
	return strings.Join(l, " ")
}

// Behind tells the path of the directory that the stage has behind the instruction. An empty word names the one that it has ahead of it.
func (t Turn) Behind() (string, error) {
	word := ""
	if t.in.is(workdirWord) {
		word = t.Task.Words[0]
	}
	return t.State.Resolve(word)
}
