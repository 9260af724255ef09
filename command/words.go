package command

import (
	"errors"

	"cistern/api"
	"cistern/glob"
	"cistern/resp"
	"cistern/varint"
)

var errOverflow = errors.New("ERR increment or decrement would overflow")

// Fault is what a client is told of an Errno; nil of OK.
func Fault(e api.Errno) error {
	if e == api.OK {
		return nil
	}
	return errors.New(resp.Fault(e).Text)
}

// Is tells whether a word is an option, which is given in small letters.
func Is(word, option string) bool { return glob.Fold(word) == option }

// Number reads a word that must be a number.
func Number(word string) (int, error) {
	n, ok := varint.Number(word)
	if !ok {
		return 0, Fault(api.ErrNumber)
	}
	return n, nil
}

// Both reads two words by one reader.
func Both[E any](read func(word string) (E, error), first, second string) (a, b E, err error) {
	a, err = read(first)
	if err == nil {
		b, err = read(second)
	}
	return a, b, err
}

// Sum adds two numbers, if the sum is one of 64 bits.
func Sum(a, b int) (int, error) {
	sum := a + b
	if b > 0 && sum < a || b < 0 && sum > a {
		return 0, errOverflow
	}
	return sum, nil
}

// Pairs refuses words of a call of which one has none to go with it.
func (c *Call) Pairs(words []string) error {
	if len(words)%2 != 0 {
		return errors.New("ERR wrong number of arguments for '" + c.Name + "' command")
	}
	return nil
}

// Words gives a closure that takes one word after the other, as long as there are some.
func Words(list []string) func() (string, bool) {
	return func() (string, bool) {
		if len(list) == 0 {
			return "", false
		}
		word := list[0]
		list = list[1:]
		return word, true
	}
}

// Places are the places from a to b of so many: the first one, and the one behind the last; the same twice, if there are none.
func Places(a, b, of int) (int, int) {
	if a < 0 && b < 0 && a > b {
		return 0, 0
	}
	a, b = fromEnd(a, of), min(fromEnd(b, of), of-1)
	if a > b {
		return 0, 0
	}
	return a, b + 1
}

func fromEnd(place, of int) int {
	if place < 0 {
		place += of
	}
	return max(place, 0)
}
