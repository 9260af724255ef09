package command

import (
	"errors"
	"math/bits"

	"cistern/api"
	"cistern/varint"
)

var errSample = errors.New("ERR value is out of range")

// SampleSize reads how many elements are asked for by chance: below 0 the same one may come again.
func SampleSize(word string) (int, error) {
	n, ok := varint.Number(word)
	if !ok || n < -api.MaxCount || n > api.MaxCount {
		return 0, errSample
	}
	return n, nil
}

// Sample gives the places, of so many, that a sample's size asks for: all of them, if there are not more; else that many different ones by chance; below 0 as many by chance, each of all.
func (c *Call) Sample(n, of int) []int {
	switch {
	case n < 0:
		return c.drawAgain(-n, of)
	case n < of:
		return c.Draw(n, of)
	}
	places := make([]int, of)
	for i := range places {
		places[i] = i
	}
	return places
}

// drawAgain gives so many places by chance, each of all; none, if there are none.
func (c *Call) drawAgain(n, of int) []int {
	if of == 0 {
		return nil
	}
	places := make([]int, n)
	for i := range places {
		places[i] = c.Space.Random(of)
	}
	return places
}

// Draw gives n different places by chance, each one of those that are left by then; n is at most of.
func (c *Call) Draw(n, of int) []int {
	left := newTally(of)
	places := make([]int, n)
	for i := range places {
		places[i] = left.take(c.Space.Random(of - i))
	}
	return places
}

// At gives what stands at places of a list.
func At[T any](list []T, places ...int) []T {
	picked := make([]T, len(places))
	for i, place := range places {
		picked[i] = list[place]
	}
	return picked
}

// tally counts the places that are left, so that each is found and taken in few steps however many there are. Its entry i counts those of the places from i - w on up to ahead of i, w being the lowest bit that is set in i.
type tally []int

func newTally(of int) tally {
	t := make(tally, of+1)
	for i := range t {
		t[i] = i & -i
	}
	return t
}

// take takes the place that has so many of those that are left ahead of it.
func (t tally) take(ahead int) int {
	place := 0
	for w := 1 << bits.Len(uint(len(t))); w > 0; w /= 2 {
		i := place + w
		switch {
		case i >= len(t):
		case t[i] <= ahead:
			ahead -= t[i]
			place = i
		default:
			t[i]--
		}
	}
	return place
}
