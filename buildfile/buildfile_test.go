package buildfile

import (
	"errors"
	"fmt"
	"maps"
	"slices"
	"strings"
	"testing"

	"layers/steps"
	"layers/trees"
	"layers/words"
)

func TestRules(t *testing.T) {
	want := []string{"ADD", "COPY", "ENV", "FROM", "LINK", "MKDIR", "RM", "WORKDIR"}
	if got := slices.Sorted(maps.Keys(newRules())); !slices.Equal(got, want) {
		t.Errorf("instructions: %q; want %q", got, want)
	}
	for word, r := range newRules() {
		if !r.isWhole() {
			t.Errorf("%s: %v is not whole", word, r)
		}
	}
}

// What init looks for: a rule that lacks one thing is not whole.
func TestIsWhole(t *testing.T) {
	read, do := (*File).readAny, (*steps.State).Remove
	for _, r := range []rule{{1, 1, read, do}, {1, 2, read, do}, {2, 2, read, do}} {
		if !r.isWhole() {
			t.Errorf("%v is not whole", r)
		}
	}
	for _, r := range []rule{{}, {0, 1, read, do}, {-1, 1, read, do}, {2, 1, read, do}, {1, 1, nil, do}, {1, 1, read, nil}} {
		if r.isWhole() {
			t.Errorf("%v is whole", r)
		}
	}
}

// The words of the table have rules, and those that are nearly these have none.
func TestRuleOf(t *testing.T) {
	for word := range newRules() {
		if _, ok := ruleOf(wordOf(word)); !ok {
			t.Errorf("%s: no rule", word)
		}
		for _, other := range []string{"", word[1:], word[:len(word)-1], word + "S", strings.ToLower(word), "$" + word} {
			if r, ok := ruleOf(wordOf(other)); ok || r.read != nil {
				t.Errorf("%s: a rule", other)
			}
		}
	}
}

// wordOf: the first word of a line.
func wordOf(line string) words.Word {
	if line == "" {
		return words.Word{}
	}
	return words.NewReader(line).Line()[0]
}

func TestStages(t *testing.T) {
	f := Read("FROM scratch AS a\nRM x\nFROM a\nCOPY --from=a x y\nFROM scratch\nCOPY x y")
	var got []int
	for _, s := range f.Stages {
		for _, in := range s.Instructions {
			got = append(got, in.Stage)
		}
	}
	if !slices.Equal(got, []int{none, none, 0, 0, none, none}) || f.Stages[0].Name != "a" || f.Stages[1].Name != "" {
		t.Errorf("stages that are named: %v; %v", got, f.Stages)
	}
}

// One file may be made more than once, with other contexts.
func TestMakeTwice(t *testing.T) {
	f := Read("FROM scratch AS a\nMKDIR x\nFROM a\nCOPY . x\nRM x")
	for range 2 {
		s, err := f.Make(trees.New(), Turn.Do)
		if err != nil || s.Tree().Below() != 0 {
			t.Errorf("%v, %v", s, err)
		}
	}
}

// What a turn tells of its instruction, with the values that the stage has by then.
func TestTurns(t *testing.T) {
	f := Read("FROM scratch AS a\nENV A x\nMKDIR $A\\$\nFROM a\nENV A \"y z\"\nWORKDIR ../w\nCOPY --from=a $A \"\"\nADD $A .")
	context := trees.New()
	var got []string
	_, err := f.Make(context, func(turn Turn) error {
		path, err := turn.Behind()
		source := "-"
		switch turn.Task.Source {
		case nil:
		case context:
			source = "context"
		default:
			source = "stage"
		}
		got = append(got, fmt.Sprint(turn.Form(), ", ", turn.IsStep(), ", ", path, " ", err, ", ", source))
		if turn.IsStep() {
			turn.State.Jump(trees.New(), "v")
			return nil
		}
		return turn.Do()
	})
	want := []string{
		"FROM scratch AS a, false,  <nil>, -", "ENV A x, false,  <nil>, -", `MKDIR x\$, true,  <nil>, -`,
		"FROM a, false,  <nil>, -", `ENV A y\ z, false, v <nil>, -`, "WORKDIR ../w, true, w <nil>, -", `COPY y\ z "", true, v <nil>, stage`, `ADD y\ z ., true, v <nil>, context`,
	}
	if err != nil || !slices.Equal(got, want) {
		t.Errorf("%v: %q; want %q", err, got, want)
	}
}

// What goes wrong ends the making, as it is told.
func TestMakeStops(t *testing.T) {
	f := Read("FROM scratch\nMKDIR a\nMKDIR b")
	other := errors.New("other")
	n := 0
	s, err := f.Make(trees.New(), func(Turn) error {
		if n++; n == 2 {
			return other
		}
		return nil
	})
	if s != nil || err != other || n != 2 {
		t.Errorf("%v, %v, behind %d instructions", s, err, n)
	}
}
