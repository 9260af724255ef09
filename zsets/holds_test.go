package zsets

import (
	"fmt"
	"slices"
	"testing"

	"cistern/api"
	"cistern/keyspace"
)

// filled makes a space with a sorted set z of any size, with many members of one score.
func filled(m *mix) *keyspace.Space {
	sp := newSpace(pick(m, allLimits()...))
	spread := pick(m, 1, 2, 5, 1000)
	for range 1 + m.below(pick(m, 3, 8, 60)) {
		Do(sp, 0, []string{"ZADD", "z", fmt.Sprint(m.below(spread) - spread/2), item(m)})
	}
	return sp
}

// ask is a list that is told, of a copy of the space.
func ask(t *testing.T, sp *keyspace.Space, words ...string) []string {
	t.Helper()
	r := Do(sp.Clone(), 0, words)
	if r.Kind != api.ReplyArray {
		t.Fatalf("%q: %s", words, told(r))
	}
	return texts(r)[1:]
}

func askOne(sp *keyspace.Space, words ...string) string { return told(Do(sp.Clone(), 0, words)) }

// TestP182Order: ZRANGE of 0 and -1 tells all members by rising score, of one score by rising bytes; ZRANK of each is its place there, ZREVRANK its place in ZREVRANGE.
func TestP182Order(t *testing.T) {
	m := mix(3)
	for range 400 {
		sp := filled(&m)
		all := ask(t, sp, "ZRANGE", "z", "0", "-1", "WITHSCORES")
		if fmt.Sprint(":", len(all)/2) != askOne(sp, "ZCARD", "z") {
			t.Fatalf("%d members are told, of %s", len(all)/2, askOne(sp, "ZCARD", "z"))
		}
		for i := 2; i < len(all); i += 2 {
			var a, b int
			fmt.Sscan(all[i-1], &a)
			fmt.Sscan(all[i+1], &b)
			if a > b || a == b && all[i-2] >= all[i] {
				t.Fatalf("%q %d stands ahead of %q %d", all[i-2], a, all[i], b)
			}
		}
		names, back := ask(t, sp, "ZRANGE", "z", "0", "-1"), ask(t, sp, "ZREVRANGE", "z", "0", "-1")
		for i, name := range names {
			if got := askOne(sp, "ZRANK", "z", name); got != fmt.Sprint(":", i) || all[2*i] != name {
				t.Fatalf("ZRANK of %q is %s; want %d", name, got, i)
			}
			if got := askOne(sp, "ZREVRANK", "z", name); got != fmt.Sprint(":", slices.Index(back, name)) {
				t.Fatalf("ZREVRANK of %q is %s; its place is %d", name, got, slices.Index(back, name))
			}
			if got := askOne(sp, "ZSCORE", "z", name); got != "$"+all[2*i+1] {
				t.Fatalf("ZSCORE of %q is %s; want %s", name, got, all[2*i+1])
			}
		}
		slices.Reverse(back)
		if !slices.Equal(names, back) {
			t.Fatalf("ZREVRANGE turned round is %q; want %q", back, names)
		}
	}
}

// TestP182Counts: ZCOUNT of two bounds is how many ZRANGEBYSCORE tells; ZREMRANGEBYSCORE takes out just these; likewise by members and by ranks.
func TestP182Counts(t *testing.T) {
	m := mix(4)
	for range 1000 {
		sp := filled(&m)
		names := ask(t, sp, "ZRANGE", "z", "0", "-1")
		for by, low := range map[string]func(m *mix) string{"SCORE": bound, "LEX": lex, "RANK": rankWord} {
			a, b := low(&m), low(&m)
			if m.below(2) == 0 {
				a, b = pick(&m, a, map[string]string{"SCORE": "-inf", "LEX": "-", "RANK": "0"}[by]), pick(&m, b, map[string]string{"SCORE": "+inf", "LEX": "+", "RANK": "-1"}[by])
			}
			tell := []string{"ZRANGEBY" + by, "z", a, b}
			if by == "RANK" {
				tell[0] = "ZRANGE"
			}
			picked := ask(t, sp, tell...)
			n := fmt.Sprint(":", len(picked))
			if by != "RANK" {
				name := map[string]string{"SCORE": "ZCOUNT", "LEX": "ZLEXCOUNT"}[by]
				if got := askOne(sp, name, "z", a, b); got != n {
					t.Fatalf("%s %s %s: %s; %d are told", name, a, b, got, len(picked))
				}
				back := ask(t, sp, "ZREVRANGEBY"+by, "z", b, a)
				slices.Reverse(back)
				if !slices.Equal(picked, back) {
					t.Fatalf("ZREVRANGEBY%s z %s %s turned round: %q; want %q", by, b, a, back, picked)
				}
			}
			after := sp.Clone()
			if got := told(Do(after, 0, []string{"ZREMRANGEBY" + by, "z", a, b})); got != n {
				t.Fatalf("ZREMRANGEBY%s z %s %s: %s; %d are told", by, a, b, got, len(picked))
			}
			left := slices.DeleteFunc(slices.Clone(names), func(name string) bool { return slices.Contains(picked, name) })
			if got := ask(t, after, "ZRANGE", "z", "0", "-1"); !slices.Equal(got, left) {
				t.Fatalf("ZREMRANGEBY%s z %s %s leaves %q; want %q", by, a, b, got, left)
			}
		}
	}
}

// rebuilt makes a sorted set of the same members in another space by a way of its own, so that it is kept otherwise.
func rebuilt(sp *keyspace.Space, key string, list []api.Scored, m *mix) {
	order := slices.Clone(list)
	for i := range order {
		j := m.below(i + 1)
		order[i], order[j] = order[j], order[i]
	}
	passing := [][]string{{"for a while"}, {"for a while", "long and longer than a compact one may be"}, {"a2", "b2", "c2", "d2", "e2"}}[m.below(3)]
	for i, name := range passing {
		Do(sp, 0, []string{"ZADD", key, fmt.Sprint(i % 2), name})
	}
	for _, s := range order {
		if m.below(3) == 0 {
			Do(sp, 0, []string{"ZADD", key, "77", s.Member})
		}
		Do(sp, 0, []string{"ZADD", key, fmt.Sprint(s.Score), s.Member})
	}
	Do(sp, 0, append([]string{"ZREM", key}, passing...))
}

// TestP183Kept: sorted sets of the same members and scores that are kept otherwise answer alike, but to ZSCAN.
func TestP183Kept(t *testing.T) {
	t.Parallel()
	m := mix(9)
	differ := 0
	for range 300 {
		limits := pick(&m, allLimits()...)
		one, other := newSpace(limits), newSpace(limits)
		for _, key := range []string{"a", "b"} {
			v, _ := filled(&m).Peek(0, "z")
			list := membersIn(v)
			var words []string
			for _, s := range list {
				words = append(words, fmt.Sprint(s.Score), s.Member)
			}
			Do(one, 0, append([]string{"ZADD", key}, words...))
			rebuilt(other, key, list, &m)
			v, _ = one.Peek(0, key)
			w, _ := other.Peek(0, key)
			if !v.Equal(w) {
				t.Fatalf("%v was rebuilt as %v", membersIn(v), membersIn(w))
			}
			if kept(v) != kept(w) {
				differ++
			}
		}
		for range 40 {
			words := likely(&m)
			if words[0] == "zscan" {
				continue
			}
			if x, y := Do(one, 0, words), Do(other, 0, words); !same(x, y) {
				t.Fatalf("%s: %s and %s", line(words), told(x), told(y))
			}
			for _, key := range one.Keys(0) {
				if x, y := seenIn(one, 0, key).shows, seenIn(other, 0, key).shows; x != y {
					t.Fatalf("%s: %s is %s and %s", line(words), key, x, y)
				}
			}
		}
	}
	if differ < 100 {
		t.Errorf("only %d sorted sets were kept otherwise", differ)
	}
}

// TestMade: a sorted set that is made has the space's thresholds, those of now; one that is there keeps its own.
func TestMade(t *testing.T) {
	sp := newSpace(someLimits())
	for _, words := range []string{"ZADD a 1 a 2 b 3 c 4 d", "ZADD b 1 a 2 b 3 c 4 d 5 e", "ZADD c 1 a 2 nine....9", "ZADD d 1 a", "ZINCRBY e 1 a"} {
		Do(sp, 0, split(words))
	}
	c := sp.Config()
	c.Limits.ZsetEntries, c.Limits.ZsetBytes = 5, 9
	sp.Adjust(c)
	for _, words := range []string{"ZADD a 5 e", "ZADD d 5 nine....9", "ZADD e 2 b 3 c 4 d 5 e", "ZADD f 1 a 2 b 3 c 4 d 5 e", "ZADD g 1 a 2 nine....9", "ZINCRBY h 1 nine....9", "ZRANGESTORE i b 0 -1", "ZUNIONSTORE j 2 b g"} {
		Do(sp, 0, split(words))
	}
	for key, want := range map[string]string{"a": "skiplist", "b": "skiplist", "c": "skiplist", "d": "skiplist", "e": "skiplist", "f": "listpack", "g": "listpack", "h": "listpack", "i": "listpack", "j": "skiplist"} {
		v, ok := sp.Peek(0, key)
		if !ok || v.Encoding() != want {
			t.Errorf("%s is there: %v; want it as %s", key, ok, want)
		}
	}
}

// TestWorkedOn: a sorted set is changed in its place: it is the same value; one that is stored is another one.
func TestWorkedOn(t *testing.T) {
	for _, c := range []struct {
		line string
		same bool
	}{
		{"ZADD z 5 x", true}, {"ZADD z 1 a", true}, {"ZADD z 9 a", true}, {"ZINCRBY z 1 a", true}, {"ZREM z a", true}, {"ZREMRANGEBYRANK z 0 0", true}, {"ZREMRANGEBYSCORE z 2 2", true}, {"ZREMRANGEBYLEX z [a [a", true}, {"ZPOPMIN z", true}, {"ZPOPMAX z 2", true}, {"ZUNIONSTORE z 1 z", false}, {"ZINTERSTORE z 2 z y", false}, {"ZDIFFSTORE z 2 z none", false}, {"ZRANGESTORE z z 0 -1", false},
	} {
		p := withZsets(t)
		was, _ := p.sp.Peek(0, "z")
		p.ask(split(c.line)...)
		now, _ := p.sp.Peek(0, "z")
		if (was == now) != c.same {
			t.Errorf("%s: the same value: %v", c.line, was == now)
		}
	}
}

// TestSources: what several keys are made of stays as it is, whatever becomes of what is made of them.
func TestSources(t *testing.T) {
	for _, limits := range allLimits() {
		p := newTrial(t, limits)
		p.want("ZADD z 1 a 2 b", ":2")
		p.giveSet(0, "s", "a", "c")
		for _, line := range []string{"ZUNIONSTORE d 2 z s", "ZINTERSTORE d 2 z s", "ZDIFFSTORE d 2 z s", "ZRANGESTORE d z 0 -1"} {
			p.ask(split(line)...)
			p.ask(split("ZADD d 77 a 78 b 79 c")...)
			p.ask(split("ZREM d a b")...)
			p.holds("z", "a 1 b 2")
			p.want("ZUNION 1 s WITHSCORES", "[$a $1 $c $1]")
		}
	}
}
