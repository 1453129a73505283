package layers

import (
	"errors"
	"testing"

	"layers/api"
	"layers/words"
)

func TestWrongOf(t *testing.T) {
	err := wrongOf(&words.Wrong{Err: api.ErrVar, Place: 7})
	if a, ok := err.(*api.At); !ok || *a != (api.At{Err: api.ErrVar, Place: 7}) {
		t.Errorf("%v", err)
	}
}

// A panic that tells of no text is not taken for one that does.
func TestWrongOfOthers(t *testing.T) {
	for _, p := range []any{"text", errors.New("other"), api.ErrSyntax} {
		func() {
			defer func() {
				if again := recover(); again != p {
					t.Errorf("%v became %v", p, again)
				}
			}()
			t.Errorf("%v: %v", p, wrongOf(p))
		}()
	}
}
