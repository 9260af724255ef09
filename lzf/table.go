package lzf

import "math/bits"

const (
	// mixer is the golden ratio's part behind the point, in 32 bits: the high
	// bits of its products hang on all bits of the three bytes.
	mixer = 0x9E3779B9
	// mostBits is where more buckets would no longer make up for the memory.
	mostBits = 16
)

// table is a hash table of a text's places by the three bytes at each. It
// forgets no place that a copy can reach, however many share a bucket: so in a
// text that stands twice each place of the second half finds a copy, and Pack
// can't miss what it must find. A search ends where copies can't reach, so it
// takes no more steps in a longer text.
type table struct {
	text   string
	shift  int     // how many bits of a hash are left out
	heads  []int32 // of each bucket the last place, 1 more; 0: none
	aheads []int32 // of each place the one ahead of it in its bucket, as in heads
}

// newTable makes a table with about as many buckets as the text has places.
func newTable(s string) *table {
	width := min(bits.Len(uint(len(s))), mostBits)
	return &table{
		text:   s,
		shift:  32 - width,
		heads:  make([]int32, 1<<width),
		aheads: make([]int32, len(s)),
	}
}

// note adds a place, which is behind those that were added.
func (t *table) note(i int) {
	b := t.bucket(i)
	t.aheads[i] = t.heads[b]
	t.heads[b] = int32(i + 1)
}

// find gives how far ahead of a place the last one with the same three bytes is.
func (t *table) find(i int) (int, bool) {
	three := t.text[i : i+leastCopy]
	for from := int(t.heads[t.bucket(i)]) - 1; from >= 0 && i-from <= farCopy; from = int(t.aheads[from]) - 1 {
		if t.text[from:from+leastCopy] == three {
			return i - from, true
		}
	}
	return 0, false
}

func (t *table) bucket(i int) uint32 {
	three := uint32(t.text[i])<<16 | uint32(t.text[i+1])<<8 | uint32(t.text[i+2])
	return three * mixer >> t.shift
}
