package buildfile

import (
	"maps"
	"slices"
	"strings"
	"testing"

	"layers/trees"
	"layers/words"
)

// Every instruction of the table can be read and done.
func TestRules(t *testing.T) {
	rules := newRules()
	want := []string{"ADD", "COPY", "ENV", "FROM", "LINK", "MKDIR", "RM", "WORKDIR"}
	if got := slices.Sorted(maps.Keys(rules)); !slices.Equal(got, want) {
		t.Errorf("instructions: %q; want %q", got, want)
	}
	for word, r := range rules {
		if r.read == nil || r.do == nil || r.least < 1 || r.most < r.least {
			t.Errorf("%s: %v", word, r)
		}
	}
}

// init has found the longest word: that one is looked for, and one byte more is not.
func TestLongest(t *testing.T) {
	if longest != len(workdirWord) {
		t.Errorf("the longest word has %d bytes; want %d", longest, len(workdirWord))
	}
	for word := range newRules() {
		if _, ok := ruleOf(wordOf(word)); !ok {
			t.Errorf("%s: no rule", word)
		}
		for _, other := range []string{"", word[1:], word[:len(word)-1], word + "S", strings.ToLower(word), "$" + word} {
			if r, ok := ruleOf(wordOf(other)); ok || r.read != nil {
				t.Errorf("%s: a rule", other)
			}
		}
	}
}

// wordOf: the first word of a line.
func wordOf(line string) words.Word {
	if line == "" {
		return words.Word{}
	}
	return words.NewReader(line).Line()[0]
}

func TestStages(t *testing.T) {
	f := Read("FROM scratch AS a\nRM x\nFROM a\nCOPY --from=a x y\nFROM scratch\nCOPY x y")
	var got []int
	for _, s := range f.Stages {
		for _, in := range s.Instructions {
			got = append(got, in.Stage)
		}
	}
	if !slices.Equal(got, []int{none, none, 0, 0, none, none}) || f.Stages[0].Name != "a" || f.Stages[1].Name != "" {
		t.Errorf("stages that are named: %v; %v", got, f.Stages)
	}
}

// One file may be made more than once, with other contexts.
func TestMakeTwice(t *testing.T) {
	f := Read("FROM scratch AS a\nMKDIR x\nFROM a\nCOPY . x\nRM x")
	for range 2 {
		s, err := f.Make(trees.New())
		if err != nil || s.Tree().Below() != 0 {
			t.Errorf("%v, %v", s, err)
		}
	}
}
