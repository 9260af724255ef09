package sets

import (
	"fmt"
	"slices"
	"testing"

	"cistern/api"
	"cistern/keyspace"
)

// filled is a trial whose keys a and b are sets of chance; what a holds.
func filled(t *testing.T, m *mix) (*trial, []string) {
	t.Helper()
	p := newTrial(t, pick(m, allLimits()...))
	for range 1 + m.below(6) {
		p.ask(append([]string{"SADD", "a"}, items(m)...)...)
		p.ask(append([]string{"SADD", "b"}, items(m)...)...)
	}
	return p, p.membersOf("a")
}

func (p *trial) membersOf(key string) []string {
	v, ok := p.sp.Peek(0, key)
	if !ok {
		return nil
	}
	return membersIn(v)
}

// TestP162AddRemove: SADD and then SREM of members that were not there leaves what was.
func TestP162AddRemove(t *testing.T) {
	m := mix(3)
	for i := range 500 {
		p, was := filled(t, &m)
		more := slices.DeleteFunc(items(&m), func(s string) bool { return slices.Contains(was, s) })
		more = append(more, fmt.Sprint("new", i))
		key := pick(&m, "a", "a", "made")
		if got := Do(p.sp, 0, append([]string{"SADD", key}, more...)); got.Kind != api.ReplyInt || got.N < 1 {
			t.Fatalf("SADD of %q: %s", more, told(got))
		}
		if got := Do(p.sp, 0, append([]string{"SREM", key}, more...)); got.Kind != api.ReplyInt || got.N < 1 {
			t.Fatalf("SREM of %q: %s", more, told(got))
		}
		if now := p.membersOf("a"); !slices.Equal(now, was) {
			t.Fatalf("%q has become %q", was, now)
		}
		if _, there := p.sp.Peek(0, "made"); there {
			t.Fatalf("what was made of %q is still there", more)
		}
	}
}

// TestP162Move: SMOVE keeps the members of both together, each with its number of places, unless both had it.
func TestP162Move(t *testing.T) {
	m := mix(6)
	for range 300 {
		p, _ := filled(t, &m)
		together := func() []string {
			return texts(Do(p.sp.Clone(), 0, []string{"SUNION", "a", "b", "made"}))
		}
		was := together()
		for range 12 {
			source, dest := pick(&m, "a", "b", "made"), pick(&m, "a", "b", "made")
			member := pick(&m, append(p.membersOf(source), item(&m))...)
			ins, ind := slices.Contains(p.membersOf(source), member), slices.Contains(p.membersOf(dest), member)
			n := len(p.membersOf(source)) + len(p.membersOf(dest))
			got := p.ask("SMOVE", source, dest, member)
			now := len(p.membersOf(source)) + len(p.membersOf(dest))
			if (got == ":1") != ins || source != dest && (now != n) != (ins && ind) {
				t.Fatalf("SMOVE %s %s %q: %s; %d members have become %d", source, dest, member, got, n, now)
			}
		}
		if now := together(); !slices.Equal(now, was) {
			t.Fatalf("%q have become %q", was, now)
		}
	}
}

// rebuilt makes a set of the same members in another space by a way of its own, so that it is kept otherwise.
func rebuilt(sp *keyspace.Space, key string, members []string, m *mix) {
	order := slices.Clone(members)
	for i := range order {
		j := m.below(i + 1)
		order[i], order[j] = order[j], order[i]
	}
	passing := [][]string{nil, {"no number"}, {"77777", "no number"}, {"long and longer than a compact one may be", "b2", "c2", "d2", "e2"}}[m.below(4)]
	Do(sp, 0, append([]string{"SADD", key, "for a while"}, passing...))
	for _, member := range order {
		Do(sp, 0, []string{"SADD", key, member})
	}
	Do(sp, 0, append([]string{"SREM", key, "for a while"}, passing...))
}

// TestP162Kept: sets of the same members that are kept otherwise answer alike, but to SSCAN.
func TestP162Kept(t *testing.T) {
	t.Parallel()
	m := mix(9)
	differ := 0
	for range 300 {
		p, _ := filled(t, &m)
		one, other := newSpace(p.sp.Config().Limits), newSpace(p.sp.Config().Limits)
		for _, key := range []string{"a", "b"} {
			members := p.membersOf(key)
			Do(one, 0, append([]string{"SADD", key}, members...))
			rebuilt(other, key, members, &m)
			v, _ := one.Peek(0, key)
			w, _ := other.Peek(0, key)
			if !v.Equal(w) {
				t.Fatalf("%q was rebuilt as %q", membersIn(v), membersIn(w))
			}
			if kept(v) != kept(w) {
				differ++
			}
		}
		for range 40 {
			words := likely(&m)
			if words[0] == "sscan" {
				continue
			}
			if x, y := Do(one, 0, words), Do(other, 0, words); !same(x, y) {
				t.Fatalf("%s: %s and %s", line(words), told(x), told(y))
			}
			for _, key := range one.Keys(0) {
				if x, y := seenIn(one, 0, key).shows, seenIn(other, 0, key).shows; x != y {
					t.Fatalf("%s: %s is %s and %s", line(words), key, x, y)
				}
			}
		}
	}
	if differ < 100 {
		t.Errorf("only %d sets were kept otherwise", differ)
	}
}

// TestMade: a set that is made has the space's thresholds, those of now; one that is there keeps its own.
func TestMade(t *testing.T) {
	sp := newSpace(someLimits())
	for _, words := range []string{"SADD a 1 2 3 4", "SADD b 1 2 3 4 5", "SADD c a nine....9", "SADD d a b c d", "SADD s 1 x", "SMOVE s e 1"} {
		Do(sp, 0, split(words))
	}
	c := sp.Config()
	c.Limits.SetInts, c.Limits.SetEntries, c.Limits.SetBytes = 5, 6, 9
	sp.Adjust(c)
	for _, words := range []string{"SADD a 5", "SADD d e", "SADD e 2 3 4 5", "SADD f 1 2 3 4 5", "SADD g a nine....9", "SADD h a b c d e f", "SADD s 1", "SMOVE s i 1", "SADD i 2 3 4 5"} {
		Do(sp, 0, split(words))
	}
	for key, want := range map[string]string{"a": "hashtable", "b": "hashtable", "c": "hashtable", "d": "hashtable", "e": "hashtable", "f": "intset", "g": "listpack", "h": "listpack", "i": "intset"} {
		v, ok := sp.Peek(0, key)
		if !ok || v.Encoding() != want {
			t.Errorf("%s is there: %v; want it as %s", key, ok, want)
		}
	}
}

// TestWorkedOn: a set is changed in its place: it is the same value; one that is stored is another one.
func TestWorkedOn(t *testing.T) {
	for _, c := range []struct {
		line string
		same bool
	}{
		{"SADD s x", true}, {"SADD s a", true}, {"SREM s a", true}, {"SPOP s", true}, {"SPOP s 2", true}, {"SMOVE s t a", true}, {"SMOVE t s d", true}, {"SUNIONSTORE s s", false}, {"SINTERSTORE s s t", false}, {"SDIFFSTORE s s none", false},
	} {
		p := withSets(t)
		was, _ := p.sp.Peek(0, "s")
		p.ask(split(c.line)...)
		now, _ := p.sp.Peek(0, "s")
		if (was == now) != c.same {
			t.Errorf("%s: the same value: %v", c.line, was == now)
		}
	}
}
