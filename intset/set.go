package intset

import (
	"math"
	"sort"

	"cistern/api"
)

const (
	wordSize   = 8        // bytes of the widest number
	headSize   = wordSize // the width and the count, halves of a word each
	halfBits   = 32
	leastWidth = 2
	midWidth   = 4
	mostWidth  = wordSize
)

// word is a number's bytes, the lowest one first.
type word [wordSize]byte

func wordOf(n uint64) word {
	var w word
	for i := range w {
		w[i] = byte(n >> (8 * i))
	}
	return w
}

func (w word) number() uint64 {
	return uint64(w[0]) | uint64(w[1])<<8 | uint64(w[2])<<16 | uint64(w[3])<<24 |
		uint64(w[4])<<32 | uint64(w[5])<<40 | uint64(w[6])<<48 | uint64(w[7])<<56
}

// readWord reads the word at a place; the text goes on for a word's bytes from there.
func readWord(p string, at int) uint64 {
	var w word
	copy(w[:], p[at:][:wordSize])
	return w.number()
}

// set is a text that is an intset, with what its head says.
type set struct {
	text         string
	width, count int
}

// parse looks at all of a text, as no call may take a text for an intset that is none.
func parse(p string) (set, bool) {
	if len(p) < headSize {
		return set{}, false
	}
	head := readWord(p, 0)
	s := set{text: p, width: int(head & math.MaxUint32), count: int(head >> halfBits)}
	if s.width != leastWidth && s.width != midWidth && s.width != mostWidth {
		return set{}, false
	}
	if s.count > api.MaxCount || len(p) != s.begin(s.count) || !s.rises() {
		return set{}, false
	}
	return s, true
}

func (s set) rises() bool {
	if s.count == 0 {
		return true
	}
	last := s.at(0)
	for i := 1; i < s.count; i++ {
		n := s.at(i)
		if n <= last {
			return false
		}
		last = n
	}
	return true
}

// begin is where the bytes of the number at a place begin.
func (s set) begin(place int) int {
	return headSize + place*s.width
}

// at reads the word that ends where the number ends: the head is a word long, so there is always one; the number is its upper part, and its sign is the word's.
func (s set) at(place int) int {
	w := readWord(s.text, s.begin(place+1)-wordSize)
	return int(w) >> (8 * (wordSize - s.width))
}

// first is the place of the first number that fits, or the one behind all; a number that fits has none behind it that doesn't.
func (s set) first(fits func(n int) bool) int {
	return sort.Search(s.count, func(i int) bool { return fits(s.at(i)) })
}

// find is where a number stands, or would stand, and whether it is there.
func (s set) find(n int) (int, bool) {
	place := s.first(func(m int) bool { return m >= n })
	return place, place < s.count && s.at(place) == n
}

func widthOf(n int) int {
	switch {
	case n >= math.MinInt16 && n <= math.MaxInt16:
		return leastWidth
	case n >= math.MinInt32 && n <= math.MaxInt32:
		return midWidth
	}
	return mostWidth
}
