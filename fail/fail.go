// Package fail has the errors of the program: each carries a code and the path of the places that passed it up (chapter 1).
package fail

import (
	"errors"
	"strconv"
	"strings"

	"switchyard/api"
)

// Step is one place of a path: a part of the program, and a number within it.
type Step struct {
	Where string
	Place int
}

// Fail is an error that was passed up through one place.
type Fail struct {
	Where string
	Place int
	Err   error
}

// Error goes down a row of Fails in a loop: joining text at each of them again would take time in the square of their number.
func (f *Fail) Error() string {
	var text strings.Builder
	text.WriteString(placeText(f.Where, f.Place))
	last := f
	for inner := direct(f.Err); inner != nil; inner = direct(inner.Err) {
		text.WriteString(": " + placeText(inner.Where, inner.Place))
		last = inner
	}
	text.WriteString(tail(last.Err))
	return text.String()
}

// Unwrap lets errors.Is and errors.As go on to what is wrapped.
func (f *Fail) Unwrap() error { return f.Err }

// In wraps err by the place that passes it up; success stays success.
func In(where string, place int, err error) error {
	if err == nil {
		return nil
	}
	return &Fail{Where: where, Place: place, Err: err}
}

// Of tells the code of err; an error from elsewhere has none, and counts as ErrOther.
func Of(err error) api.Code {
	if err == nil {
		return api.OK
	}
	code := api.ErrOther
	guard(func() {
		var found api.Code
		if errors.As(err, &found) {
			code = found
		}
	})
	return code
}

// Is tells whether err has the code c; nil has the code OK.
func Is(err error, c api.Code) bool {
	if err == nil {
		return c == api.OK
	}
	is := false
	guard(func() { is = errors.Is(err, c) })
	return is
}

// Path tells the places that err was passed up through, the outermost one first.
func Path(err error) []Step {
	var steps []Step
	for f := nearest(err); f != nil; f = nearest(f.Err) {
		steps = append(steps, Step{Where: f.Where, Place: f.Place})
	}
	return steps
}

// Text tells the path and the code only, so that it does not hang on the words of errors from elsewhere.
func Text(err error) string {
	if err == nil {
		return ""
	}
	var text strings.Builder
	for _, s := range Path(err) {
		text.WriteString(placeText(s.Where, s.Place) + ": ")
	}
	text.WriteString(Of(err).Error())
	return text.String()
}

func placeText(where string, place int) string {
	return where + " " + strconv.Itoa(place)
}

// tail is what an error that is no Fail adds to the text of the Fail around it: nothing, if there is none.
func tail(err error) string {
	if err == nil {
		return ""
	}
	text := ""
	guard(func() { text = ": " + err.Error() })
	return text
}

// nearest is the outermost Fail in err, or nil.
func nearest(err error) *Fail {
	var outermost *Fail
	guard(func() {
		var found *Fail
		if errors.As(err, &found) {
			outermost = found
		}
	})
	return outermost
}

// direct is err itself if it is a Fail, and not one further in: an error between two Fails has words of its own in Error.
func direct(err error) *Fail {
	if f := nearest(err); f != nil && err == error(f) {
		return f
	}
	return nil
}

// guard is there because an error from elsewhere may bring methods that panic, and no call of this package may (P0.1).
func guard(ask func()) {
	defer func() { _ = recover() }()
	ask()
}
