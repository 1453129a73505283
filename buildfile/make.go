package buildfile

import (
	"layers/api"
	"layers/steps"
	"layers/trees"
	"layers/words"
)

// making is what there is while stages are done: the context's root, and what the stages have come to, by their numbers.
type making struct {
	context *trees.Node
	states  []*steps.State
}

// Make does the stages that are needed, with a context, by its root, and tells what the last one has come to (P12).
func (f *File) Make(context *trees.Node) (*steps.State, error) {
	m := &making{context: context, states: make([]*steps.State, len(f.Stages))}
	for _, i := range f.Needed() {
		m.states[i] = steps.New()
		for _, in := range f.Stages[i].Instructions {
			if err := m.do(m.states[i], in); err != nil {
				return nil, placed(err, in)
			}
		}
	}
	return m.states[len(f.Stages)-1], nil
}

// placed tells an error with the place of the instruction that can't be done, whatever place it had.
func placed(err error, in Instruction) error {
	number, _ := api.Tell(err)
	return &api.At{Err: number, Place: in.Place()}
}

func (m *making) do(s *steps.State, in Instruction) error {
	t, err := m.task(s, in)
	if err != nil {
		return err
	}
	if err := in.rule.do(s, t); err != nil {
		return err
	}
	return s.CheckBound()
}

// task tells what an instruction asks for in a stage that has come so far.
func (m *making) task(s *steps.State, in Instruction) (steps.Task, error) {
	t := steps.Task{Source: m.context}
	if in.Stage != none {
		t.Stage = m.states[in.Stage]
		t.Source = t.Stage.Tree()
	}
	for _, w := range in.operands() {
		value := w.Filled(s.Value)
		if len(value) > api.MaxValue {
			return steps.Task{}, api.ErrBound
		}
		t.Words = append(t.Words, value)
	}
	return t, nil
}

// operands tells the words behind the first, but for the one by which a COPY names a stage.
func (in Instruction) operands() []words.Word {
	if in.is(copyWord) && in.Stage != none {
		return in.Words[2:]
	}
	return in.Words[1:]
}
