package value

import (
	"cmp"
	"slices"

	"cistern/api"
	"cistern/skiplist"
	"cistern/varint"
)

// zset is the body of a sorted set.
type zset interface {
	group
	score(member string) (int, bool)
	rank(member string) (int, bool)
	// rate gives members scores up to the first one that this encoding has no room for: how many it went through, and how many of these are new.
	rate(members ...api.Scored) (int, int)
	byRank(i, n int, back bool) []api.Scored
	byScore(lo, hi api.Bound, back bool, skip, most int) []api.Scored
	byLex(lo, hi api.Lex, back bool, skip, most int) []api.Scored
}

// compare tells which of two members stands ahead in the order.
func compare(a, b api.Scored) int {
	return cmp.Or(cmp.Compare(a.Score, b.Score), cmp.Compare(a.Member, b.Member))
}

// withScores gives members and the digits of their scores in turns.
func withScores(members []api.Scored) []string {
	entries := make([]string, 0, 2*len(members))
	for _, m := range members {
		entries = append(entries, m.Member, varint.Digits(m.Score))
	}
	return entries
}

// readScored gives the members that stand in turns with the digits of their scores; false, if one has no score.
func readScored(entries []string) ([]api.Scored, bool) {
	members := make([]api.Scored, 0, len(entries)/2)
	for i := 0; i < len(entries); i += 2 {
		score, ok := varint.Number(entries[i+1])
		if !ok || !isScore(score) {
			return nil, false
		}
		members = append(members, api.Scored{Member: entries[i], Score: score})
	}
	return members, true
}

// packZset is a sorted set in a listpack: members and scores in turns, in order.
type packZset struct{ packed }

func newPackZset(th api.Thresholds) *packZset {
	return &packZset{newPacked(room{th.ZsetEntries, th.ZsetBytes}, 2, 1)}
}

func (z *packZset) clone() body { return &packZset{z.twin()} }

func (z *packZset) inOrder() []api.Scored {
	members, _ := readScored(z.entries())
	return members
}

func (z *packZset) score(member string) (int, bool) {
	digits, ok := z.behind(member)
	score, _ := varint.Number(digits)
	return score, ok
}

func (z *packZset) rank(member string) (int, bool) {
	at := z.place(member)
	if at < 0 {
		return 0, false
	}
	return at / z.width, true
}

func (z *packZset) rate(members ...api.Scored) (int, int) {
	all, done := z.inOrder(), 0
	for _, m := range members {
		i := slices.IndexFunc(all, func(old api.Scored) bool { return old.Member == m.Member })
		if i >= 0 {
			all = slices.Delete(all, i, i+1)
		} else if !z.room.holds(len(all)+1, m.Member) {
			break
		}
		i, _ = slices.BinarySearchFunc(all, m, compare)
		all = slices.Insert(all, i, m)
		done++
	}
	fresh := len(all) - z.size
	z.hold(withScores(all)...)
	return done, fresh
}

func (z *packZset) byRank(i, n int, back bool) []api.Scored {
	return window(z.inOrder(), back, i, n)
}

func (z *packZset) byScore(lo, hi api.Bound, back bool, skip, most int) []api.Scored {
	low, high := scoreEnd(lo), scoreEnd(hi)
	return window(slices.DeleteFunc(z.inOrder(), func(m api.Scored) bool {
		return !low.isUnder(m.Score) || !high.isOver(m.Score)
	}), back, skip, most)
}

func (z *packZset) byLex(lo, hi api.Lex, back bool, skip, most int) []api.Scored {
	low, high := memberEnd(lo), memberEnd(hi)
	return window(slices.DeleteFunc(z.inOrder(), func(m api.Scored) bool {
		return !low.isUnder(m.Member) || !high.isOver(m.Member)
	}), back, skip, most)
}

// boardZset is a sorted set in a skiplist, with a dict of its members beside it.
type boardZset struct {
	table[struct{}]
	board *skiplist.Board[struct{}]
}

func newBoardZset(members ...api.Scored) *boardZset {
	z := &boardZset{newTable(weightless), skiplist.New[struct{}](0)}
	z.rate(members...)
	return z
}

func (z *boardZset) encoding() string { return "skiplist" }
func (z *boardZset) raw() []string    { return withScores(z.byRank(0, z.count(), false)) }

func (z *boardZset) clone() body {
	twin := &boardZset{z.twin(), skiplist.New[struct{}](0)}
	for _, m := range z.byRank(0, z.count(), false) {
		twin.board.Set(m.Member, m.Score, struct{}{})
	}
	return twin
}

func (z *boardZset) score(member string) (int, bool) {
	e, ok := z.board.Get(member)
	return e.Score, ok
}

func (z *boardZset) rank(member string) (int, bool) { return z.board.Rank(member, false) }

func (z *boardZset) rate(members ...api.Scored) (int, int) {
	fresh := 0
	for _, m := range members {
		z.board.Set(m.Member, m.Score, struct{}{})
		if z.give(m.Member, struct{}{}) {
			fresh++
		}
	}
	return len(members), fresh
}

func (z *boardZset) drop(members ...string) int {
	for _, member := range members {
		z.board.Drop(member)
	}
	return z.table.drop(members...)
}

func (z *boardZset) byRank(i, n int, back bool) []api.Scored {
	return scoredOf(z.board.Slice(i, i+n-1, back))
}

func (z *boardZset) byScore(lo, hi api.Bound, back bool, skip, most int) []api.Scored {
	return scoredOf(z.board.ByScore(lo, hi, back, skip, most))
}

func (z *boardZset) byLex(lo, hi api.Lex, back bool, skip, most int) []api.Scored {
	return scoredOf(z.board.ByLex(lo, hi, back, skip, most))
}

func scoredOf(entries []skiplist.Entry[struct{}]) []api.Scored {
	members := make([]api.Scored, len(entries))
	for i, e := range entries {
		members[i] = api.Scored{Member: e.Member, Score: e.Score}
	}
	return members
}
