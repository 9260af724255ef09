package listpack

import "strings"

// maker lays a listpack down, from its head on.
type maker struct {
	out strings.Builder
}

func newMaker(size, count int) *maker {
	m := &maker{}
	m.out.Grow(size)
	m.low(size, sizeBytes)
	m.low(min(count, manyCount), countBytes)
	return m
}

// low lays so many bytes of a number down, the lowest first.
func (m *maker) low(n, size int) {
	for i := range size {
		m.out.WriteByte(byte(n >> (8 * i)))
	}
}

func (m *maker) put(it item) {
	if it.isNumber {
		m.number(it.number)
	} else {
		m.text(it.text)
	}
	size := it.size()
	groups := backSize(size)
	for i := range groups {
		m.out.WriteByte(backByte(size, groups, i))
	}
}

func (m *maker) number(n int) {
	switch numberSize(n) {
	case 1:
		m.out.WriteByte(byte(n))
	case 2:
		m.two(number13, n&(1<<13-1))
	default:
		i := leastWidth(n)
		m.out.WriteByte(byte(wide + i))
		m.low(n, widths[i])
	}
}

func (m *maker) text(s string) {
	switch textHeadSize(len(s)) {
	case 1:
		m.out.WriteByte(byte(text6 + len(s)))
	case 2:
		m.two(text12, len(s))
	default:
		m.out.WriteByte(text32)
		m.low(len(s), 4)
	}
	m.out.WriteString(s)
}

// two lays a head of two bytes down, the higher bits first.
func (m *maker) two(first, n int) {
	m.out.WriteByte(byte(first + n>>8))
	m.out.WriteByte(byte(n))
}
