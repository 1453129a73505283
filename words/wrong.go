package words

import (
	"strconv"

	"layers/api"
)

// Wrong is what is wrong in a text, and its place. Reading panics with it, however deep it is by then: whoever asks for a text to be read has to catch it.
type Wrong struct {
	Err   api.Errno
	Place int
}

// Error tells what is wrong, and where.
func (w *Wrong) Error() string {
	return "build file: " + w.Err.Error() + " at byte " + strconv.Itoa(w.Place)
}

// Unwrap is the error without its place.
func (w *Wrong) Unwrap() error { return w.Err }

// Fail ends the reading of a text.
func Fail(err api.Errno, place int) {
	panic(&Wrong{Err: err, Place: place})
}
