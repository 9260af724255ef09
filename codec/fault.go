package codec

import (
	"errors"

	"cistern/api"
	"cistern/varint"
)

// fault is an error's number, as an error.
type fault struct{ number api.Errno }

func (f fault) Error() string { return "error " + varint.Digits(int(f.number)) }

// within is an error with the part of the bytes in which it was met. What lies between that part and the face hands it on, and need not know which numbers there are.
type within struct {
	part string
	err  error
}

func (w within) Error() string { return w.part + ": " + w.err.Error() }
func (w within) Unwrap() error { return w.err }

// met is the error of a number that was met in a part; nil, if it is OK.
func met(part string, number api.Errno) error {
	if number == api.OK {
		return nil
	}
	return within{part, fault{number}}
}

// numberOf is the number of an error, however deep within it was met.
func numberOf(err error) api.Errno {
	var f fault
	if errors.As(err, &f) {
		return f.number
	}
	return api.OK
}
