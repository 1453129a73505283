package buildfile

import "layers/steps"

// The words of instructions.
const (
	fromWord    = "FROM"
	copyWord    = "COPY"
	addWord     = "ADD"
	removeWord  = "RM"
	mkdirWord   = "MKDIR"
	linkWord    = "LINK"
	envWord     = "ENV"
	workdirWord = "WORKDIR"
)

// rule of an instruction: how few and how many words stand behind its own, how these are read (that panics, if one is wrong), and how it is done.
type rule struct {
	least, most int
	read        func(*File, *Instruction)
	do          func(*steps.State, steps.Task) error
}

// rules are those of all instructions, by their words. Only init writes here: the table could not be a starting value, since the methods in it ask the table themselves.
var rules map[string]rule

func init() {
	rules = newRules()
}

func newRules() map[string]rule {
	return map[string]rule{
		fromWord:    {1, 3, (*File).readFrom, (*steps.State).Begin},
		copyWord:    {2, 3, (*File).readCopy, (*steps.State).Copy},
		addWord:     {2, 2, (*File).readAny, (*steps.State).Add},
		removeWord:  {1, 1, (*File).readAny, (*steps.State).Remove},
		mkdirWord:   {1, 2, (*File).readMkdir, (*steps.State).Mkdir},
		linkWord:    {2, 2, (*File).readAny, (*steps.State).Link},
		envWord:     {2, 2, (*File).readEnv, (*steps.State).SetVariable},
		workdirWord: {1, 1, (*File).readAny, (*steps.State).Enter},
	}
}
