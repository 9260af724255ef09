package value

import "cistern/api"

func (v *Value) asZset() (zset, api.Errno) {
	if z, ok := v.body.(zset); ok {
		return z, api.OK
	}
	return nil, api.ErrKind
}

func isScore(n int) bool { return n >= -api.MaxNumber && n <= api.MaxNumber }

// ZAdd gives members of a sorted set scores; how many are new.
func (v *Value) ZAdd(members ...api.Scored) (int, api.Errno) {
	z, err := v.asZset()
	if err != api.OK {
		return 0, err
	}
	names := membersOf(members)
	if anyLong(names...) || tooMany(z, names) {
		return 0, api.ErrLong
	}
	for _, m := range members {
		if !isScore(m.Score) {
			return 0, api.ErrNumber
		}
	}
	return v.joinScored(members...), api.OK
}

func membersOf(scored []api.Scored) []string {
	names := make([]string, len(scored))
	for i, m := range scored {
		names[i] = m.Member
	}
	return names
}

// joinScored gives members scores, in whatever encoding there is room for them; how many are new.
func (v *Value) joinScored(members ...api.Scored) int {
	z, _ := v.asZset()
	done, fresh := z.rate(members...)
	if done < len(members) {
		v.grow()
		fresh += v.joinScored(members[done:]...)
	}
	return fresh
}

// ZDrop takes members out of a sorted set; how many were there.
func (v *Value) ZDrop(members ...string) (int, api.Errno) {
	z, err := v.asZset()
	if err != api.OK {
		return 0, err
	}
	return z.drop(members...), api.OK
}

// Score gives a member's score.
func (v *Value) Score(member string) (int, bool, api.Errno) {
	z, err := v.asZset()
	if err != api.OK {
		return 0, false, err
	}
	score, ok := z.score(member)
	return score, ok, api.OK
}

// Rank gives a member's rank.
func (v *Value) Rank(member string, back bool) (int, bool, api.Errno) {
	z, err := v.asZset()
	if err != api.OK {
		return 0, false, err
	}
	rank, ok := z.rank(member)
	if ok && back {
		rank = z.count() - 1 - rank
	}
	return rank, ok, api.OK
}

// ByRank gives members by their ranks.
func (v *Value) ByRank(i int, n int, back bool) ([]api.Scored, api.Errno) {
	z, err := v.asZset()
	if err != api.OK {
		return nil, err
	}
	if i < 0 || n < 0 {
		return nil, api.ErrArg
	}
	i = min(i, z.count())
	return z.byRank(i, min(n, z.count()-i), back), api.OK
}

// ByScore gives members by their scores.
func (v *Value) ByScore(lo api.Bound, hi api.Bound, back bool, skip int, most int) ([]api.Scored, api.Errno) {
	z, err := v.asZset()
	if err != api.OK || skip < 0 {
		return nil, err
	}
	return z.byScore(lo, hi, back, skip, most), api.OK
}

// ByLex gives members by their bytes.
func (v *Value) ByLex(lo api.Lex, hi api.Lex, back bool, skip int, most int) ([]api.Scored, api.Errno) {
	z, err := v.asZset()
	if err != api.OK || skip < 0 {
		return nil, err
	}
	return z.byLex(lo, hi, back, skip, most), api.OK
}
