package buildfile

import (
	"layers/steps"
	"layers/words"
)

// The words of instructions.
const (
	fromWord    = "FROM"
	copyWord    = "COPY"
	addWord     = "ADD"
	removeWord  = "RM"
	mkdirWord   = "MKDIR"
	linkWord    = "LINK"
	envWord     = "ENV"
	workdirWord = "WORKDIR"
)

// rule of an instruction: how few and how many words stand behind its own, how these are read (that panics, if one is wrong), and how it is done.
type rule struct {
	least, most int
	read        func(*File, *Instruction)
	do          func(*steps.State, steps.Task) error
}

// longest is how many bytes the longest word of an instruction has. Only init writes here.
var longest = 0

func init() {
	for word := range newRules() {
		longest = max(longest, len(word))
	}
}

// newRules makes the table of all instructions, by their words.
func newRules() map[string]rule {
	return map[string]rule{
		fromWord:    {1, 3, (*File).readFrom, (*steps.State).Begin},
		copyWord:    {2, 3, (*File).readCopy, (*steps.State).Copy},
		addWord:     {2, 2, (*File).readAny, (*steps.State).Add},
		removeWord:  {1, 1, (*File).readAny, (*steps.State).Remove},
		mkdirWord:   {1, 2, (*File).readMkdir, (*steps.State).Mkdir},
		linkWord:    {2, 2, (*File).readAny, (*steps.State).Link},
		envWord:     {2, 2, (*File).readEnv, (*steps.State).SetVariable},
		workdirWord: {1, 1, (*File).readAny, (*steps.State).Enter},
	}
}

// ruleOf tells the rule of the instruction that begins with this word; false, if there is none. The table is made at each look, so a word that is longer than all of its words is not looked for.
func ruleOf(w words.Word) (rule, bool) {
	word, ok := w.Plain()
	if !ok || len(word) > longest {
		return rule{}, false
	}
	r, ok := newRules()[word]
	return r, ok
}
