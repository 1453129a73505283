package buildfile

import (
	"layers/steps"
	"layers/words"
)

// The words of instructions.
const (
	fromWord    = "FROM"
	copyWord    = "COPY"
	addWord     = "ADD"
	removeWord  = "RM"
	mkdirWord   = "MKDIR"
	linkWord    = "LINK"
	envWord     = "ENV"
	workdirWord = "WORKDIR"
)

// rule of an instruction: how few and how many words stand behind its own, how these are read (that panics, if one is wrong), and how it is done.
type rule struct {
	least, most int
	read        func(*File, *Instruction)
	do          func(*steps.State, steps.Task) error
}

// isWhole tells whether an instruction can be read and done by its rule: reading asks for the first word behind its own without looking whether there is one.
func (r rule) isWhole() bool {
	return 1 <= r.least && r.least <= r.most && r.read != nil && r.do != nil
}

// A wrong row of the table is told when the program starts, not by the first file that has its word: no call may panic.
func init() {
	for _, r := range newRules() {
		if !r.isWhole() {
			panic("an instruction has no whole rule")
		}
	}
}

// newRules makes the table of all instructions, by their words.
func newRules() map[string]rule {
	return map[string]rule{
		fromWord:    {1, 3, (*File).readFrom, (*steps.State).Begin},
		copyWord:    {2, 3, (*File).readCopy, (*steps.State).Copy},
		addWord:     {2, 2, (*File).readAny, (*steps.State).Add},
		removeWord:  {1, 1, (*File).readAny, (*steps.State).Remove},
		mkdirWord:   {1, 2, (*File).readMkdir, (*steps.State).Mkdir},
		linkWord:    {2, 2, (*File).readAny, (*steps.State).Link},
		envWord:     {2, 2, (*File).readEnv, (*steps.State).SetVariable},
		workdirWord: {1, 1, (*File).readAny, (*steps.State).Enter},
	}
}

// ruleOf tells the rule of the instruction that begins with this word; false, if there is none.
func ruleOf(w words.Word) (rule, bool) {
	word, ok := w.Plain()
	if !ok {
		return rule{}, false
	}
	r, ok := newRules()[word]
	return r, ok
}
