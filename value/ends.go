package value

import (
	"cmp"
	"slices"

	"cistern/api"
)

// end is an end of a range of scores or of members.
type end[T cmp.Ordered] struct {
	at   T
	inf  int
	open bool
}

func scoreEnd(b api.Bound) end[int]   { return end[int]{b.Score, b.Inf, b.Open} }
func memberEnd(l api.Lex) end[string] { return end[string]{l.Text, l.Inf, l.Open} }

// isUnder tells whether x lies in a range of which this is the lower end, as far as that end goes.
func (e end[T]) isUnder(x T) bool {
	if e.inf != 0 {
		return e.inf < 0
	}
	return x > e.at || x == e.at && !e.open
}

// isOver tells whether x lies in a range of which this is the upper end, as far as that end goes.
func (e end[T]) isOver(x T) bool {
	if e.inf != 0 {
		return e.inf > 0
	}
	return x < e.at || x == e.at && !e.open
}

// window gives of members, or, back, of these turned round, those behind the first skip, which is not below 0: at most most, or all, if that is below 0.
func window(members []api.Scored, back bool, skip, most int) []api.Scored {
	if back {
		slices.Reverse(members)
	}
	members = members[min(skip, len(members)):]
	if most >= 0 {
		members = members[:min(most, len(members))]
	}
	return members
}
