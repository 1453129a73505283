package layers

import (
	"errors"
	"testing"

	"layers/api"
	"layers/buildfile"
	"layers/images"
	"layers/words"
)

func TestWrongOf(t *testing.T) {
	err := wrongOf(&words.Wrong{Err: api.ErrVar, Place: 7})
	if a, ok := err.(*api.At); !ok || *a != (api.At{Err: api.ErrVar, Place: 7}) {
		t.Errorf("%v", err)
	}
	if err := wrongOf(&images.Wrong{Place: 7}); err != api.ErrImage {
		t.Errorf("%v", err)
	}
}

// What is read is told, of whatever kind it is; beside an error there is nothing.
func TestRead(t *testing.T) {
	if n, err := read("abc", func(s string) int { return len(s) }); n != 3 || err != nil {
		t.Errorf("%d, %v", n, err)
	}
	f, err := read("FROM scratch", buildfile.Read)
	if f == nil || err != nil {
		t.Errorf("%v, %v", f, err)
	}
	if f, err = read("FROM", buildfile.Read); f != nil || err == nil {
		t.Errorf("%v, %v", f, err)
	}
	if c, err := read(`{"env":["A=x"],"layers":[],"work":"/"`, images.ReadConfig); c.Env != nil || c.Work != "" || err != api.ErrImage {
		t.Errorf("%v, %v", c, err)
	}
}

// A panic that tells of no text is not taken for one that does.
func TestWrongOfOthers(t *testing.T) {
	for _, p := range []any{"text", errors.New("other"), api.ErrSyntax} {
		func() {
			defer func() {
				if again := recover(); again != p {
					t.Errorf("%v became %v", p, again)
				}
			}()
			t.Errorf("%v: %v", p, wrongOf(p))
		}()
	}
}
