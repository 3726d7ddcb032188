package parse

import (
	"errors"
	"strconv"

	"muffle/api"
)

// wrong is what is wrong with a text, and where: one panics with it, and the face recovers it.
type wrong struct {
	why       api.Errno
	line, col int
}

func (w wrong) Error() string {
	return w.why.Error() + " at " + strconv.Itoa(w.line) + ", " + strconv.Itoa(w.col)
}

func (w wrong) Unwrap() error {
	return w.why
}

// faultOf is the fault of an error that was recovered.
func faultOf(err error) api.Fault {
	var w wrong
	if !errors.As(err, &w) {
		panic(err)
	}
	if errors.Is(err, api.ErrLong) {
		// The whole is too long, wherever one was when it was seen.
		return api.Fault{Errno: api.ErrLong}
	}
	return api.Fault{Errno: w.why, Line: w.line, Col: w.col}
}
