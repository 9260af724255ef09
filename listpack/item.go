package listpack

import (
	"strings"

	"cistern/api"
	"cistern/varint"
)

// First bytes of heads. Below text6 a byte is a number by itself; text6, number13 and text12 each begin a run of bytes, up to the next one, whose lower bits belong to the number or to the text's length.
const (
	text6    = 0x80
	number13 = 0xc0
	text12   = 0xe0
	text32   = 0xf0
	wide     = 0xf1 // a number of the first width; the next bytes are heads of the next widths
)

// The greatest number and the greatest lengths of the short heads.
const (
	greatest7  = 1<<7 - 1
	greatest6  = 1<<6 - 1
	greatest12 = 1<<12 - 1
)

// widths tells how many bytes of a number follow each wide head.
var widths = [...]int{2, 3, 4, 8}

// longestNumber is how many bytes a number's text has at most.
const longestNumber = len("-9223372036854775808")

// item is a value as its entry tells it: a number, or a text that is no number's. So values are the same where their items are.
type item struct {
	text     string
	number   int
	isNumber bool
}

func numberItem(n int) item { return item{number: n, isNumber: true} }

func itemOf(value string) item {
	if n, ok := numberOf(value); ok {
		return numberItem(n)
	}
	return item{text: value}
}

// numberOf gives the number whose text it is. No digit of a longer text is looked at, as it may be very long.
func numberOf(text string) (int, bool) {
	if len(text) > longestNumber {
		return 0, false
	}
	return varint.Number(text)
}

// value is a text of its own, so that who keeps it doesn't keep the whole pack.
func (it item) value() string {
	if it.isNumber {
		return varint.Digits(it.number)
	}
	return strings.Clone(it.text)
}

// size is how many bytes head and data have.
func (it item) size() int {
	if it.isNumber {
		return numberSize(it.number)
	}
	return textHeadSize(len(it.text)) + len(it.text)
}

func numberSize(n int) int {
	switch {
	case n >= 0 && n <= greatest7:
		return 1
	case fits(n, 13):
		return 2
	}
	return 1 + widths[leastWidth(n)]
}

// leastWidth is the place of the first width that a number fits; the last one fits all.
func leastWidth(n int) int {
	i := 0
	for !fits(n, 8*widths[i]) {
		i++
	}
	return i
}

// fits tells whether so many bits in two's complement can tell a number.
func fits(n, size int) bool {
	return signed(n, size) == n
}

// signed is the number that the lowest so many bits are in two's complement.
func signed(n, size int) int {
	unused := 64 - size
	return n << unused >> unused
}

func textHeadSize(length int) int {
	switch {
	case length <= greatest6:
		return 1
	case length <= greatest12:
		return 2
	}
	return 5
}

// readItem reads head and data at the beginning: the item, and how many bytes. Whether this is the item's one form is not asked yet.
func readItem(s string) (item, int) {
	switch first := s[0]; {
	case first < text6:
		return numberItem(int(first)), 1
	case first < number13:
		return readText(s, 1, int(first-text6))
	case first < text12:
		return numberItem(signed(highFirst(cut(s, 0, 2)), 13)), 2
	case first < text32:
		return readText(s, 2, highFirst(cut(s, 0, 2))&greatest12)
	case first == text32:
		return readText(s, 5, lowFirst(cut(s, 1, 4)))
	case int(first-wide) < len(widths):
		width := widths[first-wide]
		return numberItem(signed(lowFirst(cut(s, 1, width)), 8*width)), 1 + width
	}
	panic(api.ErrListpack)
}

func readText(s string, head, length int) (item, int) {
	return item{text: cut(s, head, length)}, head + length
}

// cut gives so many bytes from a place on; a pack that has fewer is given up.
func cut(s string, at, size int) string {
	must(size <= len(s)-at)
	return s[at : at+size]
}

func lowFirst(s string) int {
	n := 0
	for i := range len(s) {
		n |= int(s[i]) << (8 * i)
	}
	return n
}

func highFirst(s string) int {
	n := 0
	for i := range len(s) {
		n = n<<8 | int(s[i])
	}
	return n
}
