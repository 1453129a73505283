package layers

import (
	"errors"

	"layers/api"
	"layers/buildfile"
	"layers/words"
)

// read tells what a build file says. What is wrong in its text comes up here as a panic, from as deep as it was found, and is an error from here on.
func read(text string) (f *buildfile.File, err error) {
	defer func() {
		if p := recover(); p != nil {
			f, err = nil, wrongOf(p)
		}
	}()
	return buildfile.Read(text), nil
}

// wrongOf tells what is wrong in a text by what reading panicked with. Any other panic is a fault of the program, not of the text: to tell that as an error would hide it.
func wrongOf(p any) error {
	if e, ok := p.(error); ok {
		var w *words.Wrong
		if errors.As(e, &w) {
			return &api.At{Err: w.Err, Place: w.Place}
		}
	}
	panic(p)
}
