package zsets

import (
	"fmt"
	"slices"
	"strings"
	"testing"

	"cistern/api"
)

// withLetters is a trial whose key z has j to a, in this order, with the scores 1 to 10, and an expiry; no number by chance has been asked for.
func withLetters(t testing.TB, limits api.Thresholds) *trial {
	t.Helper()
	p := newTrial(t, limits)
	p.want("ZADD z 10 a 9 b 8 c 7 d 6 e 5 f 4 g 3 h 2 i 1 j", ":10")
	p.expire(0, "z", 5000)
	return p
}

// lettered are the members of withLetters in a line of replies, with their scores behind them.
func lettered(want string) string {
	var all []string
	for _, word := range strings.Fields(strings.Trim(want, "[]")) {
		all = append(all, word, fmt.Sprint("$", 'k'-rune(word[1])))
	}
	return "[" + strings.Join(all, " ") + "]"
}

// TestP181Sample: without a number, with numbers from far below 0 to far above the size. The members were reckoned elsewhere.
func TestP181Sample(t *testing.T) {
	for _, limits := range allLimits() {
		for _, c := range []struct{ line, want string }{
			{"z 0", "[]"}, {"z 1", "[$f]"}, {"z 4", "[$f $g $d $h]"}, {"z 9", "[$f $g $d $h $j $i $b $c $a]"},
			{"z 10", "[$j $i $h $g $f $e $d $c $b $a]"}, {"z 11", "[$j $i $h $g $f $e $d $c $b $a]"}, {"z 1048576", "[$j $i $h $g $f $e $d $c $b $a]"},
			{"z -1", "[$f]"}, {"z -12", "[$f $g $d $j $f $e $j $h $a $d $g $h]"},
			{"none 0", "[]"}, {"none 5", "[]"}, {"none -5", "[]"}, {"none -1048576", "[]"},
		} {
			p := withLetters(t, limits)
			p.keeps(c.want, split("ZRANDMEMBER "+c.line)...)
			for _, word := range []string{"WITHSCORES", "withscores", "WithScores"} {
				p = withLetters(t, limits)
				p.keeps(lettered(c.want), split("ZRANDMEMBER "+c.line+" "+word)...)
			}
		}
		p := withLetters(t, limits)
		p.keeps("$f", "ZRANDMEMBER", "z")
		p.keeps("$g", "ZRANDMEMBER", "z")
		p.keeps("_", "ZRANDMEMBER", "none")
		p = withLetters(t, limits)
		p.want("ZRANDMEMBER z 9", "[$f $g $d $h $j $i $b $c $a]")
		p.want("ZREM z a b c d e f g h i j", ":10")
		p.keeps("[]", "ZRANDMEMBER", "z", "-3")
		p.keeps("_", "ZRANDMEMBER", "z")
	}
}

// TestP181SampleNumbers: numbers at both bounds, one beyond each, and none; another word in the place of WITHSCORES, which is told ahead.
func TestP181SampleNumbers(t *testing.T) {
	for _, kind := range kinds {
		p := withZsets(t)
		p.give(0, "w", kind)
		for _, key := range []string{"z", "none", "w"} {
			for _, word := range append(noNumbers(), "1048577", "-1048577", least, greatest) {
				p.refusesWords(noSample, "ZRANDMEMBER", key, word)
				p.refusesWords(noSample, "ZRANDMEMBER", key, word, "WITHSCORES")
				p.refusesWords(syntax, "ZRANDMEMBER", key, word, "BOGUS")
			}
			for _, word := range []string{"", "WITHSCORE", "WITHVALUES", "1", "WITHSCORES "} {
				p.refusesWords(syntax, "ZRANDMEMBER", key, "1", word)
				p.refusesWords(syntax, "ZRANDMEMBER", key, "x", word)
			}
		}
	}
	sp := newSpace(someLimits())
	Do(sp, 0, split("ZADD z 1 c 2 a 3 b"))
	for _, n := range []int{-api.MaxCount, -api.MaxCount + 1} {
		by := sp.Clone()
		r := Do(sp, 0, []string{"ZRANDMEMBER", "z", fmt.Sprint(n), "WITHSCORES"})
		if r.Kind != api.ReplyArray || len(r.List) != -2*n {
			t.Fatalf("ZRANDMEMBER z %d: kind %d, %d texts", n, r.Kind, len(r.List))
		}
		for i := 0; i < len(r.List); i += 2 {
			place := by.Random(3)
			if r.List[i].Text != "cab"[place:place+1] || r.List[i+1].Text != fmt.Sprint(place+1) || r.List[i+1].Kind != api.ReplyBulk {
				t.Fatalf("ZRANDMEMBER z %d: %s %s at the place %d", n, told(r.List[i]), told(r.List[i+1]), i)
			}
		}
	}
}

// TestChance: the members that are picked are those that keyspace.Random tells of a space that is as this one, picked one by one of the members in order; sets of all sizes, numbers of all sizes.
func TestChance(t *testing.T) {
	t.Parallel()
	m := mix(31)
	for range 300 {
		sp := newSpace(pick(&m, allLimits()...))
		size := 1 + m.below(pick(&m, 3, 10, 40, 300))
		words := []string{"ZADD", "z"}
		for i := range size {
			words = append(words, fmt.Sprint(m.below(20)), fmt.Sprint("m", i))
		}
		Do(sp, 0, words)
		v, _ := sp.Peek(0, "z")
		all := membersIn(v)
		for range 5 {
			n := m.below(2*size+3) - size
			by, left := sp.Clone(), slices.Clone(all)
			var want []api.Scored
			switch {
			case n >= size:
				want = all
			case n < 0:
				for range -n {
					want = append(want, all[by.Random(size)])
				}
			default:
				for range n {
					i := by.Random(len(left))
					want = append(want, left[i])
					left = slices.Delete(left, i, i+1)
				}
			}
			scores := m.below(2) == 0
			words := []string{"ZRANDMEMBER", "z", fmt.Sprint(n), "WITHSCORES"}
			if !scores {
				words = words[:3]
			}
			got := Do(sp, 0, words)
			if !same(got, members(want, scores)) {
				t.Fatalf("%s of %v: %s; want %v", line(words), all, told(got), want)
			}
			if a, b := sp.Clone().Random(1<<30), by.Random(1<<30); a != b {
				t.Fatalf("%s of %d: not as many numbers by chance as picks", line(words), size)
			}
		}
		by := sp.Clone()
		if got, want := Do(sp, 0, []string{"ZRANDMEMBER", "z"}), all[by.Random(size)].Member; !same(got, bulk(want)) {
			t.Fatalf("ZRANDMEMBER z: %s; want %s", told(got), want)
		}
	}
}

// TestSampleDifferent: of fewer than there are no member comes twice, and each may come.
func TestSampleDifferent(t *testing.T) {
	sp := newSpace(someLimits())
	Do(sp, 0, numbered("ZADD", "z", "m", 0, 50))
	met := map[string]int{}
	for range 200 {
		r := Do(sp, 0, []string{"ZRANDMEMBER", "z", "20"})
		names := texts(r)[1:]
		slices.Sort(names)
		if len(names) != 20 || len(slices.Compact(names)) != 20 {
			t.Fatalf("ZRANDMEMBER z 20: %s", told(r))
		}
		for _, name := range names {
			met[name]++
		}
	}
	if len(met) != 50 {
		t.Errorf("only %d of 50 members were ever told", len(met))
	}
}

// TestSampleMemory: a long member that comes again and again takes the memory of one.
func TestSampleMemory(t *testing.T) {
	sp := newSpace(someLimits())
	Do(sp, 0, []string{"ZADD", "z", "1", strings.Repeat("m", api.MaxElement)})
	r := Do(sp, 0, split("ZRANDMEMBER z -1000"))
	for _, one := range r.List {
		if !shared(one.Text, r.List[0].Text) {
			t.Fatal("each of the same members has a memory of its own")
		}
	}
}
