package zsets

import (
	"fmt"
	"slices"
	"strings"
	"testing"

	"cistern/api"
)

// listed is what is told of members that stand in a line; with scores, those of withRange.
func listed(members string, scores bool) string {
	var all []string
	for _, member := range strings.Fields(members) {
		all = append(all, "$"+member)
		if scores {
			all = append(all, "$"+map[string]string{"a": "-5", "b": "1", "c": "1", "d": "3", "e": "9"}[member])
		}
	}
	return "[" + strings.Join(all, " ") + "]"
}

func reversed(members string) string {
	words := strings.Fields(members)
	slices.Reverse(words)
	return strings.Join(words, " ")
}

var rankRanges = []struct{ first, last, want string }{
	{"0", "-1", "a b c d e"}, {"0", "0", "a"}, {"4", "4", "e"}, {"1", "3", "b c d"}, {"3", "1", ""}, {"0", "4", "a b c d e"}, {"0", "5", "a b c d e"}, {"3", "99", "d e"}, {"5", "9", ""}, {"5", "5", ""}, {"4", "5", "e"}, {"-1", "-1", "e"}, {"-2", "-1", "d e"}, {"-1", "-2", ""}, {"-5", "-1", "a b c d e"}, {"-5", "-5", "a"}, {"-6", "-5", "a"}, {"-9", "-5", "a"}, {"-9", "-6", ""}, {"-6", "-6", ""}, {"-6", "0", "a"}, {"-99", "99", "a b c d e"}, {"2", "-2", "c d"}, {"2", "-3", "c"}, {"2", "-4", ""}, {"-2", "2", ""}, {"-3", "2", "c"}, {"0", "-6", ""}, {"0", "-5", "a"},
	{least, greatest, "a b c d e"}, {least, least, ""}, {greatest, greatest, ""}, {greatest, least, ""}, {least, "0", "a"}, {"4", greatest, "e"}, {"0", least, ""}, {greatest, "-1", ""},
}

// TestP181Ranks: ranks above, below and across both ends, in order and back, with and without scores.
func TestP181Ranks(t *testing.T) {
	for i := range allLimits() {
		p := withRange(t, i)
		for _, c := range rankRanges {
			p.keeps(listed(c.want, false), "ZRANGE", "z", c.first, c.last)
			p.keeps(listed(c.want, true), "ZRANGE", "z", c.first, c.last, "WITHSCORES")
			back := strings.NewReplacer("a", "e", "b", "d", "d", "b", "e", "a").Replace(c.want)
			p.keeps(listed(back, false), "ZRANGE", "z", c.first, c.last, "REV")
			p.keeps(listed(back, true), "ZRANGE", "z", c.first, c.last, "WITHSCORES", "REV")
			p.keeps(listed(back, false), "ZREVRANGE", "z", c.first, c.last)
			p.keeps(listed(back, true), "ZREVRANGE", "z", c.first, c.last, "WITHSCORES")
			p.keeps("[]", "ZRANGE", "none", c.first, c.last)
			p.keeps("[]", "ZREVRANGE", "none", c.first, c.last, "WITHSCORES")
		}
	}
}

// cut is what LIMIT leaves of members.
func cut(members string, skip, most int) string {
	words := strings.Fields(members)
	if skip < 0 || skip >= len(words) {
		return ""
	}
	words = words[skip:]
	if most >= 0 && most < len(words) {
		words = words[:most]
	}
	return strings.Join(words, " ")
}

// TestP181Between: ranges of scores and of members with LIMITs of all kinds, in order and back, by ZRANGE and by its kin.
func TestP181Between(t *testing.T) {
	limits := [][2]int{{0, -1}, {0, 0}, {0, 1}, {1, 1}, {1, -1}, {2, 2}, {0, 5}, {0, 99}, {4, 1}, {5, 1}, {99, 99}, {-1, -1}, {-1, 1}, {-9, 0}, {3, -9}, {1 << 62, 1 << 62}, {-1 << 62, 1}}
	for i := range allLimits() {
		p := withRange(t, i)
		for by, ranges := range map[string][]struct{ low, high, want string }{"BYSCORE": scoreRanges, "BYLEX": lexRanges} {
			for _, c := range ranges {
				p.keeps(listed(c.want, false), "ZRANGE", "z", c.low, c.high, by)
				p.keeps(listed(c.want, false), "ZRANGE"+by, "z", c.low, c.high)
				p.keeps(listed(reversed(c.want), false), "ZRANGE", "z", c.high, c.low, "REV", by)
				p.keeps(listed(reversed(c.want), false), "ZREVRANGE"+by, "z", c.high, c.low)
				p.keeps("[]", "ZRANGE", "none", c.low, c.high, by)
				p.keeps("[]", "ZREVRANGE"+by, "none", c.low, c.high)
				if by == "BYSCORE" {
					p.keeps(listed(c.want, true), "ZRANGE", "z", c.low, c.high, by, "WITHSCORES")
					p.keeps(listed(c.want, true), "ZRANGEBYSCORE", "z", c.low, c.high, "WITHSCORES")
					p.keeps(listed(reversed(c.want), true), "ZREVRANGEBYSCORE", "z", c.high, c.low, "WITHSCORES")
				}
				if len(c.want) < 5 {
					continue
				}
				for _, l := range limits {
					skip, n := fmt.Sprint(l[0]), fmt.Sprint(l[1])
					want, back := listed(cut(c.want, l[0], l[1]), false), listed(cut(reversed(c.want), l[0], l[1]), false)
					p.keeps(want, "ZRANGE", "z", c.low, c.high, by, "LIMIT", skip, n)
					p.keeps(want, "ZRANGE"+by, "z", c.low, c.high, "LIMIT", skip, n)
					p.keeps(back, "ZRANGE", "z", c.high, c.low, "LIMIT", skip, n, "REV", by)
					p.keeps(back, "ZREVRANGE"+by, "z", c.high, c.low, "LIMIT", skip, n)
				}
			}
		}
		p.want("ZRANGEBYSCORE z -inf +inf LIMIT 0 1 WITHSCORES LIMIT 1 2", "[$b $1 $c $1]")
		p.want("ZRANGEBYSCORE z -inf +inf WITHSCORES LIMIT 3 -1 WITHSCORES", "[$d $3 $e $9]")
		p.want("ZREVRANGEBYSCORE z +inf -inf WITHSCORES LIMIT 3 -1", "[$b $1 $a $-5]")
	}
}

// TestP181RangeWords: the words of ZRANGE in any order and letters, again and again; the last LIMIT counts.
func TestP181RangeWords(t *testing.T) {
	for i := range allLimits() {
		p := withRange(t, i)
		for _, c := range []struct{ line, want string }{
			{"0 1 REV REV", "[$e $d]"}, {"0 0 WITHSCORES REV WITHSCORES", "[$e $9]"}, {"1 3 BYSCORE BYSCORE", "[$b $c $d]"}, {"[b [c BYLEX BYLEX", "[$b $c]"},
			{"3 1 REV BYSCORE WITHSCORES LIMIT 0 1", "[$d $3]"}, {"3 1 LIMIT 0 1 WITHSCORES BYSCORE REV", "[$d $3]"}, {"3 1 withscores rev limit 0 1 byscore", "[$d $3]"}, {"3 1 ByScore Limit 0 1 Rev WithScores", "[$d $3]"}, {"3 1 BYSCORE REV", "[$d $c $b]"}, {"1 3 BYSCORE REV", "[]"}, {"3 1 BYSCORE", "[]"},
			{"1 9 BYSCORE LIMIT 0 1 LIMIT 1 1", "[$c]"}, {"1 9 BYSCORE LIMIT 1 1 LIMIT 0 -1", "[$b $c $d $e]"}, {"1 9 LIMIT 9 9 BYSCORE LIMIT 2 1", "[$d]"}, {"1 9 BYSCORE LIMIT x y LIMIT 0 1", "[$b]"}, {"- + BYLEX LIMIT 0 0 LIMIT 4 1", "[$e]"},
			{"+ - BYLEX REV LIMIT 1 2", "[$d $c]"}, {"+ [d LIMIT 0 1 BYLEX REV", "[$e]"}, {"- + BYLEX REV", "[]"},
		} {
			p.keeps(c.want, split("ZRANGE z "+c.line)...)
		}
	}
}

// TestP181RangeErrors: each error of ZRANGE and of its kin, alone and two at once, whatever the key is.
func TestP181RangeErrors(t *testing.T) {
	for _, kind := range kinds {
		p := withZsets(t)
		p.give(0, "w", kind)
		for _, key := range []string{"z", "none", "w"} {
			for _, c := range []struct{ line, want string }{
				{"0 1 BOGUS", syntax}, {"0 1 ''", syntax}, {"0 1 LIMIT", syntax}, {"0 1 LIMIT 0", syntax}, {"0 1 BYSCORE LIMIT 0", syntax}, {"0 1 BYSCORE LIMIT", syntax}, {"0 1 BYSCORE BYLEX", syntax}, {"- + BYLEX BYSCORE", syntax}, {"0 1 2", syntax}, {"0 1 REV 1", syntax}, {"0 1 WITHSCORE", syntax}, {"0 1 LIMIT 0 1 BOGUS", syntax}, {"0 1 BYSCORE LIMIT 0 1 1", syntax}, {"x y BOGUS", syntax}, {"x y BYSCORE LIMIT x", syntax}, {"- + BYLEX WITHSCORES BOGUS", syntax}, {"x y BYSCORE LIMIT x y BYLEX", syntax}, {"x y WITHSCORES BYLEX BYSCORE", syntax}, {"0 1 LIMIT 0 1 LIMIT 0", syntax}, {"0 1 REV LIMIT BYSCORE REV BYLEX BOGUS", syntax},
				{"0 1 LIMIT 0 1", noLimit}, {"0 1 REV LIMIT 0 1", noLimit}, {"x y LIMIT x y", noLimit}, {"x y WITHSCORES LIMIT 0 1", noLimit}, {"0 1 LIMIT BYSCORE BYLEX", noLimit}, {"0 1 LIMIT x 1 REV", noLimit},
				{"- + BYLEX WITHSCORES", noScores}, {"x y WITHSCORES BYLEX", noScores}, {"- + WITHSCORES REV BYLEX LIMIT x y", noScores}, {"- + BYLEX LIMIT 0 1 WITHSCORES", noScores},
				{"0 1 BYSCORE LIMIT x 1", noNumber}, {"0 1 BYSCORE LIMIT 1 x", noNumber}, {"x y BYSCORE LIMIT 0 x", noNumber}, {"x y BYLEX LIMIT 1.5 0", noNumber}, {"0 1 BYSCORE LIMIT 0 1 LIMIT 0 x", noNumber}, {"0 1 BYSCORE WITHSCORES LIMIT 9223372036854775808 0", noNumber}, {"x 1", noNumber}, {"0 y REV", noNumber}, {"- +", noNumber}, {"(0 1", noNumber}, {"-inf +inf", noNumber},
				{"x 1 BYSCORE", noBound}, {"0 y BYSCORE REV", noBound}, {"- + BYSCORE LIMIT 0 1", noBound}, {"x 1 BYLEX", noLex}, {"0 1 BYLEX REV", noLex}, {"[a b BYLEX LIMIT 0 1", noLex},
			} {
				p.refuses("ZRANGE "+key+" "+c.line, c.want)
				if c.want != noScores && !strings.Contains(c.line, "WITHSCORES") {
					p.refuses("ZRANGESTORE d "+key+" "+c.line, c.want)
					p.refuses("ZRANGESTORE z "+key+" "+c.line, c.want)
				}
			}
			for _, line := range []string{"0 1 WITHSCORES", "0 1 LIMIT 0 1 WITHSCORES", "x y BYLEX WITHSCORES", "x y WITHSCORES BYSCORE LIMIT x y", "- + BYLEX WITHSCORES"} {
				p.refuses("ZRANGESTORE d "+key+" "+line, syntax)
			}
			for _, name := range []string{"ZRANGEBYSCORE", "ZREVRANGEBYSCORE"} {
				for _, line := range []string{"0 1 BYSCORE", "0 1 BYLEX", "0 1 REV", "0 1 BOGUS", "0 1 LIMIT", "0 1 LIMIT 0", "x y WITHSCORES REV", "x y LIMIT x", "0 1 LIMIT 0 1 REV", "0 1 ''", "0 1 WITHSCORE", "x y LIMIT x y BOGUS"} {
					p.refuses(name+" "+key+" "+line, syntax)
				}
				p.refuses(name+" "+key+" x y LIMIT x 1", noNumber)
				p.refuses(name+" "+key+" x y LIMIT 0 1", noBound)
			}
			for _, name := range []string{"ZRANGEBYLEX", "ZREVRANGEBYLEX"} {
				for _, line := range []string{"- + BYSCORE", "- + BYLEX", "- + REV", "- + WITHSCORES", "x y WITHSCORES", "- + BOGUS", "- + LIMIT", "- + LIMIT 0", "x y LIMIT x", "- + WITHSCORES REV", "- + REV LIMIT 0", "- + ''"} {
					p.refuses(name+" "+key+" "+line, syntax)
				}
				p.refuses(name+" "+key+" - + LIMIT 0 1 REV", unknown)
				p.refuses(name+" "+key+" x y LIMIT x 1", noNumber)
				p.refuses(name+" "+key+" x y LIMIT 0 1", noLex)
			}
			for _, line := range []string{"0 1 BYSCORE", "0 1 BYLEX", "0 1 REV", "0 1 LIMIT", "x y BOGUS", "0 1 ''", "0 1 WITHSCORE"} {
				p.refuses("ZREVRANGE "+key+" "+line, syntax)
			}
			p.refuses("ZREVRANGE "+key+" 0 1 LIMIT 0 1", unknown)
			p.refuses("ZREVRANGE "+key+" x 1 WITHSCORES", noNumber)
		}
	}
}

// TestP181RangeStore: what is stored of a range; onto its own key, onto keys of all kinds, nothing to store.
func TestP181RangeStore(t *testing.T) {
	for i := range allLimits() {
		for _, c := range []struct{ line, members string }{
			{"0 -1", "a -5 b 1 c 1 d 3 e 9"}, {"0 1 REV", "d 3 e 9"}, {"1 2", "b 1 c 1"}, {"9 9", ""}, {"1 3 BYSCORE", "b 1 c 1 d 3"}, {"1 3 BYSCORE LIMIT 1 1", "c 1"}, {"3 1 BYSCORE REV LIMIT 0 1", "d 3"}, {"1 3 BYSCORE LIMIT 0 0", ""}, {"1 3 BYSCORE LIMIT -1 9", ""}, {"[b [d BYLEX", "b 1 c 1 d 3"}, {"+ [d REV BYLEX LIMIT 1 -1", "d 3"}, {"+ - BYLEX", ""},
		} {
			want := fmt.Sprint(":", len(strings.Fields(c.members))/2)
			for _, kind := range append(slices.Clone(kinds), api.KindNone) {
				p := withRange(t, i)
				if kind != api.KindNone {
					p.give(0, "d", kind)
					p.expire(0, "d", 6000)
				}
				mark := p.sp.Mark(0, "d")
				p.want("ZRANGESTORE d z "+c.line, want)
				p.holds("d", c.members)
				p.holds("z", "a -5 b 1 c 1 d 3 e 9")
				p.due("z", 5000)
				if c.members == "" {
					p.due("d", 0)
					continue
				}
				p.due("d", -1)
				if p.sp.Mark(0, "d") == mark {
					t.Errorf("ZRANGESTORE d z %s: the mark of d is as it was", c.line)
				}
			}
			p := withRange(t, i)
			p.want("ZRANGESTORE z z "+c.line, want)
			p.holds("z", c.members)
			p = withRange(t, i)
			p.want("ZRANGESTORE z none "+c.line, ":0")
			p.holds("z", "")
		}
	}
	p := withZsets(t)
	key := strings.Repeat("k", api.MaxKey+1)
	p.refusesWords(tooLarge, "ZRANGESTORE", key, "z", "0", "-1")
	p.keeps(":0", "ZRANGESTORE", key, "z", "9", "9")
	p.wantWords(":3", "ZRANGESTORE", key[1:], "z", "0", "-1")
	p.refuses("ZRANGESTORE d s 0 -1", wrongType) // a set is none here
}

// TestP181RemoveRange: ranges of none, of some and of all members, by rank, by score and by member; what is left, and the key that goes with its last member.
func TestP181RemoveRange(t *testing.T) {
	left := func(gone string) string {
		var all []string
		for _, pair := range []string{"a -5", "b 1", "c 1", "d 3", "e 9"} {
			if !strings.Contains(gone, pair[:1]) {
				all = append(all, pair)
			}
		}
		return strings.Join(all, " ")
	}
	for i := range allLimits() {
		for name, ranges := range map[string][]struct{ low, high, want string }{"ZREMRANGEBYSCORE": scoreRanges, "ZREMRANGEBYLEX": lexRanges, "ZREMRANGEBYRANK": ranksAsRanges()} {
			for _, c := range ranges {
				p := withRange(t, i)
				n := len(strings.Fields(c.want))
				if n == 0 {
					p.keeps(":0", name, "z", c.low, c.high)
				} else {
					p.wantWords(fmt.Sprint(":", n), name, "z", c.low, c.high)
				}
				p.holds("z", left(c.want))
				if n == 5 {
					p.due("z", 0)
				} else {
					p.due("z", 5000)
				}
				p.keeps(":0", name, "none", c.low, c.high)
			}
		}
	}
}

func ranksAsRanges() (list []struct{ low, high, want string }) {
	for _, c := range rankRanges {
		list = append(list, struct{ low, high, want string }{c.first, c.last, c.want})
	}
	return list
}

// TestP181Pop: without a number, with 0, some, as many as there are and more; in the order in which members go; the last one, with which the key goes.
func TestP181Pop(t *testing.T) {
	for i := range allLimits() {
		for _, c := range []struct{ line, want, left string }{
			{"ZPOPMIN z", "a", "b 1 c 1 d 3 e 9"}, {"ZPOPMIN z 0", "", "a -5 b 1 c 1 d 3 e 9"}, {"ZPOPMIN z 1", "a", "b 1 c 1 d 3 e 9"}, {"ZPOPMIN z 3", "a b c", "d 3 e 9"}, {"ZPOPMIN z 4", "a b c d", "e 9"}, {"ZPOPMIN z 5", "a b c d e", ""}, {"ZPOPMIN z 6", "a b c d e", ""}, {"ZPOPMIN z " + greatest, "a b c d e", ""},
			{"ZPOPMAX z", "e", "a -5 b 1 c 1 d 3"}, {"ZPOPMAX z 0", "", "a -5 b 1 c 1 d 3 e 9"}, {"ZPOPMAX z 1", "e", "a -5 b 1 c 1 d 3"}, {"ZPOPMAX z 3", "e d c", "a -5 b 1"}, {"ZPOPMAX z 4", "e d c b", "a -5"}, {"ZPOPMAX z 5", "e d c b a", ""}, {"ZPOPMAX z 6", "e d c b a", ""}, {"ZPOPMAX z " + greatest, "e d c b a", ""},
			{"ZPOPMIN none", "", "a -5 b 1 c 1 d 3 e 9"}, {"ZPOPMAX none", "", "a -5 b 1 c 1 d 3 e 9"}, {"ZPOPMIN none 3", "", "a -5 b 1 c 1 d 3 e 9"}, {"ZPOPMAX none 0", "", "a -5 b 1 c 1 d 3 e 9"},
		} {
			p := withRange(t, i)
			if c.want == "" {
				p.keeps("[]", split(c.line)...)
			} else {
				p.want(c.line, listed(c.want, true))
			}
			p.holds("z", c.left)
			if c.left != "" {
				p.due("z", 5000)
				continue
			}
			p.due("z", 0)
			p.want("ZADD z 1 new", ":1")
			p.due("z", -1)
		}
	}
	for _, kind := range kinds {
		p := withZsets(t)
		p.give(0, "w", kind)
		for _, word := range append(noNumbers(), "-1", "-2", least) {
			for _, key := range []string{"z", "none", "w"} {
				p.refusesWords(notPositive, "ZPOPMIN", key, word)
				p.refusesWords(notPositive, "ZPOPMAX", key, word)
			}
		}
	}
}

// TestPopEach: members that go one by one are those that go at once, and leave the same.
func TestPopEach(t *testing.T) {
	for _, limits := range allLimits() {
		for _, name := range []string{"ZPOPMIN", "ZPOPMAX"} {
			one, all := newTrial(t, limits), newTrial(t, limits)
			for _, p := range []*trial{one, all} {
				p.ask(numbered("ZADD", "z", "m", 1, 60)...)
			}
			var list []string
			for range 40 {
				list = append(list, strings.Trim(one.ask(name, "z"), "[]"))
			}
			all.want(name+" z 40", "["+strings.Join(list, " ")+"]")
			v, _ := one.sp.Peek(0, "z")
			w, _ := all.sp.Peek(0, "z")
			if kept(v) != kept(w) {
				t.Errorf("one by one %s are left, at once %s", kept(v), kept(w))
			}
		}
	}
}
