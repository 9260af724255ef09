package zsets

import (
	"fmt"
	"slices"
	"strings"
	"testing"

	"cistern/api"
)

// TestP181Scan: cursors and options of sorted sets that are kept as a listpack and in the large form, and of none.
func TestP181Scan(t *testing.T) {
	p := begun(t)
	p.want("ZADD pack 3 z 1 10 -2 a 3 9", ":4")
	p.want("ZADD table 1 a 2 b 3 ab 4 ba 5 abc 6 1 7 10 8 11", ":8")
	const all = "[$0 [$a $-2 $10 $1 $9 $3 $z $3]]"
	for _, c := range []struct{ line, want string }{
		{"pack 0", all}, {"pack 5", all}, {"pack " + greatest, all}, {"none 0", "[$0 []]"}, {"none 5 MATCH a COUNT 3", "[$0 []]"},
		{"pack 0 COUNT 1", all}, {"pack 0 MATCH 1*", "[$0 [$10 $1]]"}, {"pack 0 MATCH ?", "[$0 [$a $-2 $9 $3 $z $3]]"}, {"pack 0 match [a-z]", "[$0 [$a $-2 $z $3]]"}, {"pack 0 MATCH nothing", "[$0 []]"}, {"pack 0 MATCH 3", "[$0 []]"}, {"pack 0 MATCH ''", "[$0 []]"}, {"pack 0 MATCH *", all}, {"pack 0 MATCH A", "[$0 []]"}, {"pack 0 MATCH \\a", "[$0 [$a $-2]]"},
		{"pack 0 MATCH a MATCH 1*", "[$0 [$10 $1]]"}, {"pack 0 MATCH 1* MATCH a", "[$0 [$a $-2]]"}, {"pack 0 COUNT 5 MATCH a", "[$0 [$a $-2]]"}, {"pack 0 MATCH a Count 5", "[$0 [$a $-2]]"}, {"pack 0 COUNT 1 COUNT 2", all}, {"pack 0 MATCH MATCH", "[$0 []]"}, {"pack 0 MATCH COUNT COUNT 1", "[$0 []]"},
	} {
		p.keeps(c.want, split("ZSCAN "+c.line)...)
	}
	v, _ := p.sp.Peek(0, "table")
	withScores := func(names []string) string {
		var list []string
		for _, name := range names {
			score, _, _ := v.Score(name)
			list = append(list, name, fmt.Sprint(score))
		}
		return told(bulks(list...))
	}
	for _, cursor := range []int{0, 1, 2, 3, 7, 1000} {
		for _, n := range []int{1, 2, 5, 10, 1 << 40} {
			names, next, _ := v.Scan(cursor, n)
			want := fmt.Sprintf("[$%d %s]", next, withScores(names))
			p.want(fmt.Sprintf("ZSCAN table %d COUNT %d", cursor, n), want)
			if n == 10 {
				p.want(fmt.Sprint("ZSCAN table ", cursor), want)
			}
			if n == 2 {
				p.want(fmt.Sprintf("ZSCAN table %d COUNT 7 COUNT 2", cursor), want)
			}
			match := slices.DeleteFunc(names, func(s string) bool { return !strings.HasPrefix(s, "a") })
			p.want(fmt.Sprintf("ZSCAN table %d MATCH a* COUNT %d", cursor, n), fmt.Sprintf("[$%d %s]", next, withScores(match)))
		}
	}
}

// TestP181ScanErrors: cursors that can't be, options that can't be, alone and two at once.
func TestP181ScanErrors(t *testing.T) {
	longest, over := strings.Repeat("?", api.MaxPattern), strings.Repeat("?", api.MaxPattern+1)
	for _, kind := range kinds {
		p := withZsets(t)
		p.give(0, "w", kind)
		for _, key := range []string{"z", "none", "w"} {
			for _, word := range append(noNumbers(), "-1", least) {
				p.refusesWords(noCursor, "ZSCAN", key, word)
				p.refusesWords(noCursor, "ZSCAN", key, word, "MATCH", over)
				p.refusesWords(noCursor, "ZSCAN", key, word, "BOGUS")
			}
			for _, words := range []string{"MATCH", "COUNT", "BOGUS", "''", "BOGUS 1", "MATCH a COUNT", "COUNT 1 MATCH", "COUNT 1 1", "MATCH a b", "1 COUNT", "a MATCH", "MATCH a BOGUS 1", "BOGUS 1 COUNT 1", "COUNT 0", "COUNT -1", "COUNT 0 MATCH a", "COUNT 1 COUNT 0", "COUNT 0 COUNT 1", "COUNT x COUNT 1", "COUNT 0 BOGUS 1", "BOGUS 1 COUNT 0", "NOVALUES", "WITHSCORES", "NOSCORES", "TYPE zset", "MATCHES a", "COUN 1"} {
				p.refuses("ZSCAN "+key+" 0 "+words, syntax)
			}
			for _, word := range append(noNumbers(), "0", "-1", least) {
				p.refusesWords(syntax, "ZSCAN", key, "0", "COUNT", word)
			}
			p.refusesWords(syntax, "ZSCAN", key, "0", "MATCH", over)
			p.refusesWords(syntax, "ZSCAN", key, "0", "MATCH", over, "MATCH", "a")
			p.refusesWords(syntax, "ZSCAN", key, "0", "MATCH", "a", "MATCH", over)
			p.refusesWords(syntax, "ZSCAN", key, "0", "MATCH", over, "COUNT", "0")
			p.refusesWords(unknown, "ZSCAN", key, "0", "MATCH", "a", "COUNT", "1", "MATCH")
			p.refusesWords(unknown, "ZSCAN", key, "0", "MATCH", "a", "COUNT", "1", "MATCH", "b")
		}
	}
	p := withZsets(t)
	member := strings.Repeat("m", api.MaxPattern)
	p.wantWords(":1", "ZADD", "z", "7", member)
	p.wantWords("[$0 [$"+member+" $7]]", "ZSCAN", "z", "0", "MATCH", longest, "COUNT", "100")
	p.wantWords("[$0 []]", "ZSCAN", "y", "0", "MATCH", longest)
	p.want("ZSCAN y 0 COUNT "+greatest, "[$0 [$c $-1 $b $5 $d $9]]")
}

// TestP13Scans: whole scans from cursor 0 to cursor 0, with members put and dropped, and scores changed, between their steps: every member that was there all the while is told, none that never was, each with a score that it had.
func TestP13Scans(t *testing.T) {
	t.Parallel()
	for seed := range 300 {
		m := mix(seed + 1)
		sp := newSpace(pick(&m, leastLimits(), leastLimits(), someLimits(), greatestLimits()))
		member := func() string { return fmt.Sprint(pick(&m, "", "m"), m.below(400)) }
		scores := map[string]int{}
		put := func(s string) {
			scores[s] = m.below(100)
			Do(sp, 0, []string{"ZADD", "z", fmt.Sprint(scores[s]), s})
		}
		for range m.below(300) {
			put(member())
		}
		put("stays")
		all := map[string]bool{} // all that were ever there
		left := map[string]bool{}
		for _, s := range texts(Do(sp, 0, split("ZRANGE z 0 -1")))[1:] {
			all[s], left[s] = true, true
		}
		met := map[string]bool{}
		grow := m.below(3)
		for cursor, steps := "0", 0; ; steps++ {
			words := []string{"ZSCAN", "z", cursor, "COUNT", fmt.Sprint(1 + m.below(12))}
			if m.below(2) == 0 {
				words = append(words, "MATCH", "*")
			}
			r := Do(sp, 0, words)
			for i := 0; i < len(r.List[1].List); i += 2 {
				name, digits := r.List[1].List[i].Text, r.List[1].List[i+1].Text
				met[name] = true
				if digits != fmt.Sprint(scores[name]) {
					t.Fatalf("seed %d: %s has the score %s; want %d", seed, name, digits, scores[name])
				}
			}
			cursor = r.List[0].Text
			if cursor == "0" {
				break
			}
			if steps > 10000 {
				t.Fatalf("seed %d: the scan does not end", seed)
			}
			for range m.below(20) {
				s := member()
				if m.below(3) < grow {
					put(s)
					all[s] = true
				} else {
					Do(sp, 0, []string{"ZREM", "z", s})
					delete(left, s)
				}
			}
			if m.below(10) == 0 {
				for i, s := range texts(Do(sp, 0, []string{pick(&m, "ZPOPMIN", "ZPOPMAX"), "z", fmt.Sprint(m.below(30))}))[1:] {
					if i%2 == 0 {
						delete(left, s)
					}
				}
				put("more")
				all["more"] = true
			}
		}
		for s := range left {
			if !met[s] {
				t.Fatalf("seed %d: %s was there all the while, and was not told", seed, s)
			}
		}
		for s := range met {
			if !all[s] {
				t.Fatalf("seed %d: %s was told, and was never there", seed, s)
			}
		}
	}
}

// TestP13Match: a whole scan with a pattern tells just the members that match.
func TestP13Match(t *testing.T) {
	for _, limits := range allLimits() {
		p := newTrial(t, limits)
		p.ask(numbered("ZADD", "z", "m", 0, 150)...)
		var met []string
		for cursor, first := "0", true; first || cursor != "0"; first = false {
			r := Do(p.sp, 0, []string{"ZSCAN", "z", cursor, "MATCH", "m1?", "COUNT", "3"})
			for i := 0; i < len(r.List[1].List); i += 2 {
				met = append(met, r.List[1].List[i].Text+"="+r.List[1].List[i+1].Text)
			}
			cursor = r.List[0].Text
		}
		slices.Sort(met)
		if got := strings.Join(slices.Compact(met), " "); got != "m10=10 m11=11 m12=12 m13=13 m14=14 m15=15 m16=16 m17=17 m18=18 m19=19" {
			t.Errorf("the scan tells %s", got)
		}
	}
}

// TestP13All: a scan of a sorted set that is not changed tells each member once, if no move goes on, with whatever count.
func TestP13All(t *testing.T) {
	for _, n := range []int{1, 2, 3, 10, 100, 1000} {
		sp := newSpace(leastLimits())
		Do(sp, 0, numbered("ZADD", "z", "m", 0, 100))
		for range 200 {
			Do(sp, 0, []string{"ZADD", "z", "1", "m1"}) // so that moves come to their end
		}
		var met []string
		for cursor, first := "0", true; first || cursor != "0"; first = false {
			r := Do(sp, 0, []string{"ZSCAN", "z", cursor, "COUNT", fmt.Sprint(n)})
			for i := 0; i < len(r.List[1].List); i += 2 {
				met = append(met, r.List[1].List[i].Text)
			}
			cursor = r.List[0].Text
		}
		slices.Sort(met)
		want := numberedNames("", "", "m", 0, 100)[2:]
		slices.Sort(want)
		if !slices.Equal(met, want) {
			t.Errorf("COUNT %d: %q; want %q", n, met, want)
		}
	}
}
