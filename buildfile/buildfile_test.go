package buildfile

import (
	"maps"
	"slices"
	"testing"

	"layers/trees"
)

// init has filled the table: every instruction can be read and done.
func TestRules(t *testing.T) {
	want := []string{"ADD", "COPY", "ENV", "FROM", "LINK", "MKDIR", "RM", "WORKDIR"}
	if got := slices.Sorted(maps.Keys(rules)); !slices.Equal(got, want) {
		t.Errorf("instructions: %q; want %q", got, want)
	}
	for word, r := range rules {
		if r.read == nil || r.do == nil || r.least < 1 || r.most < r.least {
			t.Errorf("%s: %v", word, r)
		}
	}
}

func TestStages(t *testing.T) {
	f := Read("FROM scratch AS a\nRM x\nFROM a\nCOPY --from=a x y\nFROM scratch\nCOPY x y")
	var got []int
	for _, s := range f.Stages {
		for _, in := range s.Instructions {
			got = append(got, in.Stage)
		}
	}
	if !slices.Equal(got, []int{none, none, 0, 0, none, none}) || f.Stages[0].Name != "a" || f.Stages[1].Name != "" {
		t.Errorf("stages that are named: %v; %v", got, f.Stages)
	}
}

// One file may be made more than once, with other contexts.
func TestMakeTwice(t *testing.T) {
	f := Read("FROM scratch AS a\nMKDIR x\nFROM a\nCOPY . x\nRM x")
	for range 2 {
		s, err := f.Make(trees.New())
		if err != nil || s.Tree().Below() != 0 {
			t.Errorf("%v, %v", s, err)
		}
	}
}
