package value

import (
	"maps"
	"math"
	"slices"
	"strings"

	"cistern/api"
	"cistern/intset"
	"cistern/varint"
)

// intSet is a set of numbers in an intset.
type intSet struct {
	most   int // numbers
	room   room
	ints   string
	size   int
	weight int
}

func newIntSet(th api.Thresholds) *intSet {
	return &intSet{most: th.SetInts, room: room{th.SetEntries, th.SetBytes}, ints: intset.New()}
}

func (s *intSet) encoding() string                   { return "intset" }
func (s *intSet) raw() []string                      { return []string{strings.Clone(s.ints)} }
func (s *intSet) count() int                         { return s.size }
func (s *intSet) bytes() int                         { return s.weight }
func (s *intSet) names() []string                    { return digits(s.numbers()) }
func (s *intSet) scan(cursor, n int) ([]string, int) { return s.names(), 0 }

func (s *intSet) clone() body {
	twin := *s
	twin.ints = strings.Clone(s.ints)
	return &twin
}

func (s *intSet) knows() func(string) bool {
	numbers := s.numbers()
	return func(member string) bool {
		n, isNumber := varint.Number(member)
		_, found := slices.BinarySearch(numbers, n)
		return isNumber && found
	}
}

func (s *intSet) numbers() []int {
	numbers, _ := intset.All(s.ints)
	return numbers
}

func digits(numbers []int) []string {
	texts := make([]string, len(numbers))
	for i, n := range numbers {
		texts[i] = varint.Digits(n)
	}
	return texts
}

func (s *intSet) has(member string) bool {
	n, ok := varint.Number(member)
	return ok && intset.Has(s.ints, n)
}

func (s *intSet) add(members ...string) (int, int) {
	old, fresh, done := s.numbers(), map[int]struct{}{}, 0
	for _, member := range members {
		n, isNumber := varint.Number(member)
		if !isNumber {
			break
		}
		_, here := slices.BinarySearch(old, n)
		_, again := fresh[n]
		if !here && !again {
			if len(old)+len(fresh) >= s.most {
				break
			}
			fresh[n] = struct{}{}
		}
		done++
	}
	if len(fresh) > 0 {
		joined := slices.Sorted(maps.Keys(fresh))
		s.weight += weigh(digits(joined)...)
		s.hold(merged(old, joined))
	}
	return done, len(fresh)
}

func (s *intSet) drop(members ...string) int {
	var named []int
	for _, member := range members {
		if n, ok := varint.Number(member); ok {
			named = append(named, n)
		}
	}
	gone := among(named)
	var left, dropped []int
	for _, n := range s.numbers() {
		if gone(n) {
			dropped = append(dropped, n)
		} else {
			left = append(left, n)
		}
	}
	s.weight -= weigh(digits(dropped)...)
	s.hold(left)
	return len(dropped)
}

// grown gives the set that it turns into: one in a listpack, if that has room for its members, else one in a dict.
func (s *intSet) grown() set {
	members := s.names()
	if s.room.holds(s.size, members...) {
		return newPackSet(s.room, members...)
	}
	return newTableSet(members...)
}

// merged gives the numbers of two rising lists as one.
func merged(a, b []int) []int {
	all := make([]int, 0, len(a)+len(b))
	for _, n := range b {
		k, _ := slices.BinarySearch(a, n)
		all = append(append(all, a[:k]...), n)
		a = a[k:]
	}
	return append(all, a...)
}

// hold lets it keep rising numbers in the place of those that it has, as wide as was ever needed. They are laid down at once: layer 5 takes them one by one, and goes through all of an intset for each.
func (s *intSet) hold(numbers []int) {
	width := int(s.ints[0])
	s.ints = intsetOf(max(width, widthOf(numbers)), numbers)
	s.size = len(numbers)
}

// intsetOf gives the intset of rising numbers for which a width is enough.
func intsetOf(width int, numbers []int) string {
	var out strings.Builder
	out.Grow(8 + width*len(numbers))
	putLow(&out, width, 4)
	putLow(&out, len(numbers), 4)
	for _, n := range numbers {
		putLow(&out, n, width)
	}
	return out.String()
}

// putLow lays so many bytes of a number down, the lowest first.
func putLow(out *strings.Builder, n, size int) {
	var word [8]byte
	for i := range word {
		word[i] = byte(n >> (8 * i))
	}
	out.Write(word[:size])
}

// widthOf gives the width that rising numbers need: the first or the last one needs the greatest.
func widthOf(numbers []int) int {
	if len(numbers) == 0 {
		return 2
	}
	first, last := numbers[0], numbers[len(numbers)-1]
	switch {
	case first < math.MinInt32 || last > math.MaxInt32:
		return 8
	case first < math.MinInt16 || last > math.MaxInt16:
		return 4
	}
	return 2
}
