package skiplist

import (
	"cmp"
	"iter"

	"cistern/api"
)

// end is an end of a range of scores or of members.
type end[T cmp.Ordered] struct {
	at   T
	inf  int
	open bool
}

func scoreEnd(b api.Bound) end[int]   { return end[int]{b.Score, b.Inf, b.Open} }
func memberEnd(l api.Lex) end[string] { return end[string]{l.Text, l.Inf, l.Open} }

// under tells whether, as a lower end, it lets x in.
func (e end[T]) under(x T) bool {
	if e.inf != 0 {
		return e.inf < 0
	}
	return x > e.at || x == e.at && !e.open
}

// over tells whether, as an upper end, it lets x in.
func (e end[T]) over(x T) bool {
	if e.inf != 0 {
		return e.inf > 0
	}
	return x < e.at || x == e.at && !e.open
}

// span is a range of scores as ranks: the first one in it and the one behind the last, which is less if ends are crossed.
func (b *Board[V]) span(lo, hi api.Bound) (int, int) {
	low, high := scoreEnd(lo), scoreEnd(hi)
	from := b.seek(func(t *tower[V], _ int) bool { return !low.under(t.entry.Score) })
	to := b.seek(func(t *tower[V], _ int) bool { return high.over(t.entry.Score) })
	return from[0].place, to[0].place
}

// within goes through the towers in a range of members, which may stand anywhere: the order is by scores first.
func (b *Board[V]) within(lo, hi api.Lex, back bool) iter.Seq[*tower[V]] {
	low, high := memberEnd(lo), memberEnd(hi)
	return func(yield func(*tower[V]) bool) {
		for t := range b.walk(0, b.Len(), back) {
			if member := t.entry.Member; low.under(member) && high.over(member) && !yield(t) {
				return
			}
		}
	}
}

// turn is a rank counted from the other side, if back.
func (b *Board[V]) turn(rank int, back bool) int {
	if back {
		return b.Len() - 1 - rank
	}
	return rank
}

// tower is the one of a rank that is there.
func (b *Board[V]) tower(rank int) *tower[V] {
	return b.seek(func(_ *tower[V], place int) bool { return place <= rank+1 })[0].tower
}

// walk goes through n towers from a rank on; they are there.
func (b *Board[V]) walk(rank, n int, back bool) iter.Seq[*tower[V]] {
	return func(yield func(*tower[V]) bool) {
		t := b.tower(b.turn(rank, back))
		for range n {
			if !yield(t) {
				return
			}
			if back {
				t = t.prev
			} else {
				t = t.links[0].next
			}
		}
	}
}

// take is the entries of n ranks from one on; they are there.
func (b *Board[V]) take(rank, n int, back bool) []Entry[V] {
	taken := make([]Entry[V], 0, n)
	for t := range b.walk(rank, n, back) {
		taken = append(taken, t.tell())
	}
	return taken
}
