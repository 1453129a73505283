package buildfile

import (
	"layers/api"
	"layers/steps"
	"layers/trees"
	"layers/words"
)

// making is what there is while stages are done: the context's root, and what the stages have come to, by their numbers.
type making struct {
	context *trees.Node
	states  []*steps.State
}

// Make does the stages that are needed, with a context, by its root, and tells what the last one has come to (P12). How an instruction is done is said by do: Turn.Do does just that.
func (f *File) Make(context *trees.Node, do func(Turn) error) (*steps.State, error) {
	m := &making{context: context, states: make([]*steps.State, len(f.Stages))}
	for _, i := range f.Needed() {
		m.states[i] = steps.New()
		for _, in := range f.Stages[i].Instructions {
			if err := do(m.turn(m.states[i], in)); err != nil {
				return nil, err
			}
		}
	}
	return m.states[len(f.Stages)-1], nil
}

// turn tells what an instruction asks for in a stage that has come so far.
func (m *making) turn(s *steps.State, in Instruction) Turn {
	t := steps.Task{Source: m.source(in)}
	if in.Stage != none {
		t.Stage = m.states[in.Stage]
	}
	for _, w := range in.operands() {
		t.Words = append(t.Words, w.Filled(s.Value))
	}
	return Turn{State: s, Task: t, in: in}
}

// source tells the tree that an instruction takes things from; nil, if it takes none.
func (m *making) source(in Instruction) *trees.Node {
	switch {
	case !in.is(copyWord) && !in.is(addWord):
		return nil
	case in.Stage != none:
		return m.states[in.Stage].Tree()
	}
	return m.context
}

// operands tells the words behind the first, but for the one by which a COPY names a stage.
func (in Instruction) operands() []words.Word {
	if in.is(copyWord) && in.Stage != none {
		return in.Words[2:]
	}
	return in.Words[1:]
}

// placed tells an error with the place of the instruction that can't be done, whatever place it had.
func placed(err error, in Instruction) error {
	number, _ := api.Tell(err)
	return &api.At{Err: number, Place: in.Place()}
}
