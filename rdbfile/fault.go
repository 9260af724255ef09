package rdbfile

import (
	"errors"

	"cistern/api"
	"cistern/varint"
)

// fault is what a file is given up with: an error's number. It stands at the beginning of the part that is being read.
type fault struct{ number api.Errno }

func (f fault) Error() string { return "error " + varint.Digits(int(f.number)) }

// elsewhere is a fault that stands at another place.
type elsewhere struct {
	at  int
	err error
}

func (w elsewhere) Error() string { return w.err.Error() + " at " + varint.Digits(w.at) }
func (w elsewhere) Unwrap() error { return w.err }

// must gives the file up where something does not hold.
func must(holds bool, number api.Errno) {
	if !holds {
		panic(fault{number})
	}
}

// mustAt does so with the place of the fault.
func mustAt(at int, holds bool, number api.Errno) {
	if !holds {
		panic(elsewhere{at, fault{number}})
	}
}

// mustBeOK gives the file up for what a layer below answers.
func mustBeOK(number api.Errno) { must(number == api.OK, number) }

// met tells what a file was given up with, and where, if the part that was being read begins at a place. Any other panic is none of the file's, and goes on.
func met(given any, begin int) (int, api.Errno) {
	if err, ok := given.(error); ok {
		var f fault
		if errors.As(err, &f) {
			var w elsewhere
			if errors.As(err, &w) {
				return w.at, f.number
			}
			return begin, f.number
		}
	}
	panic(given)
}
