package skiplist

import (
	"math/bits"
	"strings"
)

// tallest is the greatest height of a tower.
const tallest = 24

// tower is a member in its place, with a link at each level of its height.
type tower[V any] struct {
	entry Entry[V]
	links []link[V]
	prev  *tower[V] // of the first one: the head
}

// link leads from a tower to the next one that is as high, or to the end.
type link[V any] struct {
	next *tower[V]
	over int // how many places it leads on; the end is the place behind the last one
}

func newTower[V any](e Entry[V], high int) *tower[V] {
	return &tower[V]{entry: e, links: make([]link[V], high)}
}

// height is the height of a member's tower by the member's hash.
func height(hash int) int {
	return min(1+bits.TrailingZeros64(uint64(hash))/2, tallest)
}

// tell is the entry as its caller's own.
func (t *tower[V]) tell() Entry[V] {
	e := t.entry
	e.Member = strings.Clone(e.Member)
	return e
}

// isAhead tells whether a tower stands ahead of another one in the order.
func (t *tower[V]) isAhead(other *tower[V]) bool {
	if t.entry.Score != other.entry.Score {
		return t.entry.Score < other.entry.Score
	}
	return t.entry.Member < other.entry.Member
}

// step is a tower on the way to a place.
type step[V any] struct {
	tower *tower[V]
	place int // of the head 0, of the first member 1
}

// way is the way to a place: at each level that the head has, the last tower ahead of it.
type way[V any] [tallest]step[V]

// seek goes to the place up to which ahead holds for all towers, and behind which it holds for none.
func (b *Board[V]) seek(ahead func(t *tower[V], place int) bool) way[V] {
	var w way[V]
	at := step[V]{tower: b.head}
	for level := len(b.head.links) - 1; level >= 0; level-- {
		for {
			l := at.tower.links[level]
			if l.next == nil || !ahead(l.next, at.place+l.over) {
				break
			}
			at = step[V]{l.next, at.place + l.over}
		}
		w[level] = at
	}
	return w
}

// ahead is the way to a tower's place in the order, whether or not it stands there.
func (b *Board[V]) ahead(t *tower[V]) way[V] {
	return b.seek(func(other *tower[V], _ int) bool { return other.isAhead(t) })
}

// link puts a tower into its place.
func (b *Board[V]) link(t *tower[V]) {
	b.raise(len(t.links))
	w := b.ahead(t)
	place := w[0].place + 1
	for level := range b.head.links {
		before := &w[level].tower.links[level]
		before.over++
		if level < len(t.links) {
			over := place - w[level].place
			t.links[level] = link[V]{before.next, before.over - over}
			*before = link[V]{t, over}
		}
	}
	t.prev = w[0].tower
	if next := t.links[0].next; next != nil {
		next.prev = t
	}
	b.counts[len(t.links)-1]++
	b.size++
}

// unlink takes a tower out of its place.
func (b *Board[V]) unlink(t *tower[V]) {
	w := b.ahead(t)
	for level := range b.head.links {
		before := &w[level].tower.links[level]
		if level < len(t.links) {
			before.next = t.links[level].next
			before.over += t.links[level].over
		}
		before.over--
	}
	if next := t.links[0].next; next != nil {
		next.prev = t.prev
	}
	b.counts[len(t.links)-1]--
	b.size--
	b.lower()
}

// raise makes the head as high as a tower that comes.
func (b *Board[V]) raise(high int) {
	for len(b.head.links) < high {
		b.head.links = append(b.head.links, link[V]{over: b.size + 1})
	}
}

// lower makes the head as high as the highest tower that is left.
func (b *Board[V]) lower() {
	high := len(b.head.links)
	for high > 0 && b.counts[high-1] == 0 {
		high--
	}
	b.head.links = b.head.links[:high]
}
