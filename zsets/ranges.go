package zsets

import (
	"errors"

	"cistern/api"
	"cistern/command"
	"cistern/glob"
	"cistern/value"
)

const unlimited = -1 // the most that is told, where all is

var errLex = errors.New("ERR min or max not valid string range item")

// window says from which side a range is told, and how much of it.
type window struct {
	back bool
	skip int
	most int
}

// choice picks members of a sorted set, in the order in which they are told.
type choice func(v *value.Value) []api.Scored

// ranger reads the ends of a range: what they pick. Back, the first one is the upper one.
type ranger func(first, last string, w window) (choice, error)

// pick gives what a choice picks.
func (z zset) pick(c choice) []api.Scored {
	if !z.There() {
		return nil
	}
	return c(z.Value)
}

func readBound(word string) (api.Bound, error) {
	b, e := glob.Bound(word)
	return b, command.Fault(e)
}

func readLex(word string) (api.Lex, error) {
	l, e := glob.Lex(word)
	if e != api.OK {
		return api.Lex{}, errLex
	}
	return l, nil
}

// byRank is the ranger of ranks, which back are counted from the greatest down; they are told without a limit.
func byRank(first, last string, w window) (choice, error) {
	a, b, err := command.Both(command.Number, first, last)
	if err != nil {
		return nil, err
	}
	return func(v *value.Value) []api.Scored {
		from, end := ranks(a, b, v.Len())
		members, _ := v.ByRank(from, end-from, w.back)
		return members
	}, nil
}

// ranks are the ranks from a to b of so many members: the first one, and the one behind the last; the same twice, if there are none.
func ranks(a, b, of int) (int, int) {
	if a < 0 {
		a += of
	}
	if b < 0 {
		b += of
	}
	a, b = max(a, 0), min(b, of-1)
	if a > b {
		return 0, 0
	}
	return a, b + 1
}

func byScore(first, last string, w window) (choice, error) {
	low, high, err := command.Both(readBound, first, last)
	if err != nil {
		return nil, err
	}
	if w.back {
		low, high = high, low
	}
	return func(v *value.Value) []api.Scored {
		members, _ := v.ByScore(low, high, w.back, w.skip, w.most)
		return members
	}, nil
}

func byLex(first, last string, w window) (choice, error) {
	low, high, err := command.Both(readLex, first, last)
	if err != nil {
		return nil, err
	}
	if w.back {
		low, high = high, low
	}
	return func(v *value.Value) []api.Scored {
		members, _ := v.ByLex(low, high, w.back, w.skip, w.most)
		return members
	}, nil
}
