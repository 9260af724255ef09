package sets

import (
	"fmt"
	"slices"
	"strings"
	"testing"

	"cistern/api"
)

// TestP161Scan: cursors and options of sets that are kept as numbers, as a listpack and in the large form, and of none.
func TestP161Scan(t *testing.T) {
	p := begun(t)
	p.want("SADD ints 10 9 2 1", ":4")
	p.want("SADD pack z 10 a 9", ":4")
	p.want("SADD table a b ab ba abc 1 10 11", ":8")
	for _, c := range []struct{ line, want string }{
		{"ints 0", "[$0 [$1 $2 $9 $10]]"}, {"pack 0", "[$0 [$z $10 $a $9]]"}, {"ints 5", "[$0 [$1 $2 $9 $10]]"}, {"pack " + greatest, "[$0 [$z $10 $a $9]]"}, {"none 0", "[$0 []]"}, {"none 5 MATCH a COUNT 3", "[$0 []]"},
		{"ints 0 COUNT 1", "[$0 [$1 $2 $9 $10]]"}, {"ints 0 MATCH 1*", "[$0 [$1 $10]]"}, {"pack 0 MATCH ?", "[$0 [$z $a $9]]"}, {"pack 0 MATCH [a-z]", "[$0 [$z $a]]"}, {"pack 0 MATCH nothing", "[$0 []]"}, {"pack 0 MATCH ''", "[$0 []]"}, {"pack 0 MATCH *", "[$0 [$z $10 $a $9]]"}, {"pack 0 MATCH A", "[$0 []]"}, {"pack 0 MATCH \\a", "[$0 [$a]]"},
		{"pack 0 MATCH a MATCH 1*", "[$0 [$10]]"}, {"pack 0 MATCH 1* MATCH a", "[$0 [$a]]"}, {"pack 0 COUNT 5 MATCH a", "[$0 [$a]]"}, {"pack 0 MATCH a COUNT 5", "[$0 [$a]]"}, {"pack 0 COUNT 1 COUNT 2", "[$0 [$z $10 $a $9]]"}, {"pack 0 MATCH MATCH", "[$0 []]"}, {"pack 0 MATCH COUNT COUNT 1", "[$0 []]"},
	} {
		p.keeps(c.want, split("SSCAN "+c.line)...)
	}
	v, _ := p.sp.Peek(0, "table")
	for _, cursor := range []int{0, 1, 2, 3, 7, 1000} {
		for _, n := range []int{1, 2, 5, 10, 1 << 40} {
			members, next, _ := v.Scan(cursor, n)
			want := fmt.Sprintf("[$%d %s]", next, told(bulks(api.ReplyArray, members)))
			p.want(fmt.Sprintf("SSCAN table %d COUNT %d", cursor, n), want)
			if n == 10 {
				p.want(fmt.Sprint("SSCAN table ", cursor), want)
			}
			if n == 2 {
				p.want(fmt.Sprintf("SSCAN table %d COUNT 7 COUNT 2", cursor), want)
			}
			match := slices.DeleteFunc(members, func(s string) bool { return !strings.HasPrefix(s, "a") })
			p.want(fmt.Sprintf("SSCAN table %d MATCH a* COUNT %d", cursor, n), fmt.Sprintf("[$%d %s]", next, told(bulks(api.ReplyArray, match))))
		}
	}
}

// TestP161ScanErrors: cursors that can't be, options that can't be, alone and two at once.
func TestP161ScanErrors(t *testing.T) {
	most, over := strings.Repeat("?", api.MaxPattern), strings.Repeat("?", api.MaxPattern+1)
	for _, kind := range kinds {
		p := withSets(t)
		p.give(0, "w", kind)
		for _, key := range []string{"s", "none", "w"} {
			for _, word := range append(noNumbers(), "-1", least) {
				p.refusesWords(noCursor, "SSCAN", key, word)
				p.refusesWords(noCursor, "SSCAN", key, word, "MATCH", over)
				p.refusesWords(noCursor, "SSCAN", key, word, "BOGUS")
			}
			for _, words := range []string{"MATCH", "COUNT", "BOGUS", "''", "BOGUS 1", "MATCH a COUNT", "COUNT 1 MATCH", "COUNT 1 1", "MATCH a b", "1 COUNT", "a MATCH", "MATCH a BOGUS 1", "BOGUS 1 COUNT 1", "COUNT 0", "COUNT -1", "COUNT 0 MATCH a", "COUNT 1 COUNT 0", "COUNT 0 COUNT 1", "COUNT x COUNT 1", "COUNT 0 BOGUS 1", "BOGUS 1 COUNT 0", "NOVALUES", "TYPE set", "MATCHES a", "COUN 1"} {
				p.refuses("SSCAN "+key+" 0 "+words, syntax)
			}
			for _, word := range append(noNumbers(), "0", "-1", least) {
				p.refusesWords(syntax, "SSCAN", key, "0", "COUNT", word)
			}
			p.refusesWords(syntax, "SSCAN", key, "0", "MATCH", over)
			p.refusesWords(syntax, "SSCAN", key, "0", "MATCH", over, "MATCH", "a")
			p.refusesWords(syntax, "SSCAN", key, "0", "MATCH", "a", "MATCH", over)
			p.refusesWords(syntax, "SSCAN", key, "0", "MATCH", over, "COUNT", "0")
			p.refusesWords(unknown, "SSCAN", key, "0", "MATCH", "a", "COUNT", "1", "MATCH")
			p.refusesWords(unknown, "SSCAN", key, "0", "MATCH", "a", "COUNT", "1", "MATCH", "b")
		}
	}
	p := withSets(t)
	member := strings.Repeat("m", api.MaxPattern)
	p.wantWords(":1", "SADD", "s", member)
	p.wantWords("[$0 [$"+member+"]]", "SSCAN", "s", "0", "MATCH", most, "COUNT", "100")
	p.wantWords("[$0 []]", "SSCAN", "t", "0", "MATCH", most)
	p.want("SSCAN t 0 COUNT "+greatest, "[$0 [$b $c $d]]")
}

// TestP163Scans: whole scans from cursor 0 to cursor 0, with members added and removed between their steps: every member that was there all the while is told, and none that never was.
func TestP163Scans(t *testing.T) {
	t.Parallel()
	for seed := range 300 {
		m := mix(seed + 1)
		sp := newSpace(pick(&m, leastLimits(), leastLimits(), someLimits(), greatestLimits()))
		member := func() string { return fmt.Sprint(pick(&m, "", "m"), m.below(400)) }
		for range m.below(300) {
			Do(sp, 0, []string{"SADD", "s", member()})
		}
		Do(sp, 0, []string{"SADD", "s", "stays"})
		all := map[string]bool{} // all that were ever there
		left := map[string]bool{}
		for _, s := range texts(Do(sp, 0, []string{"SMEMBERS", "s"}))[1:] {
			all[s], left[s] = true, true
		}
		met := map[string]bool{}
		grow := m.below(3)
		for cursor, steps := "0", 0; ; steps++ {
			words := []string{"SSCAN", "s", cursor, "COUNT", fmt.Sprint(1 + m.below(12))}
			if m.below(2) == 0 {
				words = append(words, "MATCH", "*")
			}
			r := Do(sp, 0, words)
			for _, one := range r.List[1].List {
				met[one.Text] = true
			}
			cursor = r.List[0].Text
			if cursor == "0" {
				break
			}
			if steps > 10000 {
				t.Fatalf("seed %d: the scan does not end", seed)
			}
			for range m.below(20) {
				s := member()
				if m.below(3) < grow {
					Do(sp, 0, []string{"SADD", "s", s})
					all[s] = true
				} else {
					Do(sp, 0, []string{"SREM", "s", s})
					delete(left, s)
				}
			}
			if m.below(10) == 0 {
				for _, s := range texts(Do(sp, 0, []string{"SPOP", "s", fmt.Sprint(m.below(30))}))[1:] {
					delete(left, s)
				}
				Do(sp, 0, []string{"SADD", "s", "more"})
				all["more"] = true
			}
		}
		for s := range left {
			if !met[s] {
				t.Fatalf("seed %d: %s was there all the while, and was not told", seed, s)
			}
		}
		for s := range met {
			if !all[s] {
				t.Fatalf("seed %d: %s was told, and was never there", seed, s)
			}
		}
	}
}

// TestP163Match: a whole scan with a pattern tells just the members that match.
func TestP163Match(t *testing.T) {
	for _, limits := range allLimits() {
		p := newTrial(t, limits)
		p.ask(numbered("SADD", "s", "m", 0, 150)...)
		var met []string
		for cursor, first := "0", true; first || cursor != "0"; first = false {
			r := Do(p.sp, 0, []string{"SSCAN", "s", cursor, "MATCH", "m1?", "COUNT", "3"})
			met = append(met, texts(r.List[1])[1:]...)
			cursor = r.List[0].Text
		}
		slices.Sort(met)
		if got := strings.Join(slices.Compact(met), " "); got != "m10 m11 m12 m13 m14 m15 m16 m17 m18 m19" {
			t.Errorf("the scan tells %s", got)
		}
	}
}

// TestP163All: a scan of a set that is not changed tells each member once, if no move goes on, with whatever count.
func TestP163All(t *testing.T) {
	for _, n := range []int{1, 2, 3, 10, 100, 1000} {
		sp := newSpace(leastLimits())
		Do(sp, 0, numbered("SADD", "s", "m", 0, 100))
		for range 200 {
			Do(sp, 0, []string{"SADD", "s", "m1"}) // so that moves come to their end
		}
		var met []string
		for cursor, first := "0", true; first || cursor != "0"; first = false {
			r := Do(sp, 0, []string{"SSCAN", "s", cursor, "COUNT", fmt.Sprint(n)})
			met = append(met, texts(r.List[1])[1:]...)
			cursor = r.List[0].Text
		}
		slices.Sort(met)
		v, _ := sp.Peek(0, "s")
		if want := membersIn(v); !slices.Equal(met, want) {
			t.Errorf("COUNT %d: %q; want %q", n, met, want)
		}
	}
}
