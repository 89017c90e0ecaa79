// Package diag makes errors that tell a code and a place, and that wrap one another.
package diag

import (
	"errors"
	"strconv"
	"strings"

	"governor/api"
)

// The place of an error that stands for a code, wherever it was told.
const anywhere = -1

// Chain tells so many errors at most.
const mostLinks = 100

// Error is an error of a code, at a place, that may wrap another one.
type Error struct {
	Code, At int
	Err      error
}

// Error tells code and place, and those of what is wrapped.
func (e *Error) Error() string {
	if e == nil {
		return "fine"
	}
	var text strings.Builder
	// A loop, not a call within a call: chains may be of any length.
	for {
		text.WriteString("code " + strconv.Itoa(e.Code) + " at " + strconv.Itoa(e.At))
		if e.Err == nil {
			return text.String()
		}
		text.WriteString(": ")
		next := itself(e.Err)
		if next == nil {
			text.WriteString(foreign(e.Err))
			return text.String()
		}
		e = next
	}
}

// Unwrap is the wrapped error.
func (e *Error) Unwrap() error {
	if e == nil {
		return nil
	}
	return e.Err
}

// Is tells whether the target stands for the code of e.
func (e *Error) Is(target error) bool {
	t := itself(target)
	return e != nil && t != nil && t.Code == e.Code && t.At == anywhere && t.Err == nil
}

// New makes an error of a code, at a place.
func New(code int, at int) error {
	return &Error{Code: code, At: at}
}

// Of makes an error that stands for a code, at whatever place.
func Of(code int) error {
	return New(code, anywhere)
}

// Wrap makes an error of a code, at a place, that holds another one.
func Wrap(err error, code int, at int) error {
	if errors.Is(err, nil) {
		return nil
	}
	return &Error{Code: code, At: at, Err: err}
}

// Find tells code and place of the first *Error in err.
func Find(err error) (int, int, bool) {
	e := first(err)
	if e == nil {
		return 0, 0, false
	}
	return e.Code, e.At, true
}

// Chain tells codes and places of all that err wraps, the outermost first.
func Chain(err error) []api.Wrong {
	var links []api.Wrong
	for len(links) < mostLinks {
		e := first(err)
		if e == nil {
			break
		}
		links = append(links, api.Wrong{Code: e.Code, At: e.At})
		err = e.Err
	}
	return links
}

// first is what errors.As finds in err; nil, if that is nothing.
func first(err error) (found *Error) {
	// Other people's errors are asked here: their methods may panic.
	defer func() {
		if recover() != nil {
			found = nil
		}
	}()
	if !errors.As(err, &found) {
		return nil
	}
	return found
}

// itself is err, if it is an *Error, not only a wrapping of one.
func itself(err error) *Error {
	e := first(err)
	if err != error(e) {
		return nil
	}
	return e
}

// foreign is the text of an error that is none of this package's.
func foreign(err error) (text string) {
	defer func() {
		if recover() != nil {
			text = "?"
		}
	}()
	return err.Error()
}
