package layers

import (
	"errors"

	"layers/api"
	"layers/images"
	"layers/words"
)

// read tells what a text says, of whatever kind it is. What is wrong in it comes up here as a panic, from as deep as it was found, and is an error from here on.
func read[T any](text string, by func(text string) T) (said T, err error) {
	defer func() {
		if p := recover(); p != nil {
			err = wrongOf(p)
		}
	}()
	return by(text), nil
}

// wrongOf tells what is wrong in a text by what reading panicked with. Any other panic is a fault of the program, not of the text: to tell that as an error would hide it.
func wrongOf(p any) error {
	if e, ok := p.(error); ok {
		var inFile *words.Wrong
		var inImage *images.Wrong
		switch {
		case errors.As(e, &inFile):
			return &api.At{Err: inFile.Err, Place: inFile.Place}
		case errors.As(e, &inImage):
			return api.ErrImage
		}
	}
	panic(p)
}
