package intset

import "strings"

// maker lays an intset down, from its head on.
type maker struct {
	out   strings.Builder
	width int
}

func newMaker(width, count int) *maker {
	m := &maker{width: width}
	m.out.Grow(headSize + count*width)
	head := wordOf(uint64(width) | uint64(count)<<halfBits)
	m.out.Write(head[:])
	return m
}

func (m *maker) add(n int) {
	w := wordOf(uint64(n))
	m.out.Write(w[:m.width])
}

// addFrom lays the numbers of a set down from one place up to another; its bytes are the same where the width is.
func (m *maker) addFrom(s set, from, to int) {
	if m.width == s.width {
		m.out.WriteString(s.text[s.begin(from):s.begin(to)])
		return
	}
	for i := from; i < to; i++ {
		m.add(s.at(i))
	}
}

// with is the intset with a number that is not in it, which stands at a place then.
func (s set) with(place, n int) string {
	m := newMaker(max(s.width, widthOf(n)), s.count+1)
	m.addFrom(s, 0, place)
	m.add(n)
	m.addFrom(s, place, s.count)
	return m.out.String()
}

// without is the intset without the number at a place.
func (s set) without(place int) string {
	m := newMaker(s.width, s.count-1)
	m.addFrom(s, 0, place)
	m.addFrom(s, place+1, s.count)
	return m.out.String()
}
