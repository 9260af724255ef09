package lists

import (
	"fmt"
	"slices"
	"strings"
	"testing"

	"cistern/api"
	"cistern/keyspace"
	"cistern/listpack"
)

// filled is a trial whose keys a and b are lists of chance; what a holds.
func filled(t *testing.T, m *mix) (*trial, []string) {
	t.Helper()
	p := newTrial(t, []api.Thresholds{leastLimits(), someLimits(), greatestLimits()}[m.below(3)])
	for range 1 + m.below(6) {
		p.ask(append([]string{pick(m, "LPUSH", "RPUSH"), "a"}, items(m)...)...)
		p.ask(append([]string{pick(m, "LPUSH", "RPUSH"), "b"}, items(m)...)...)
	}
	return p, p.entriesOf("a")
}

func (p *trial) entriesOf(key string) []string {
	v, ok := p.sp.Peek(0, key)
	if !ok {
		return nil
	}
	return entriesIn(v)
}

// TestLI2Push: a push and a pop of as many at the same end leave what was.
func TestLI2Push(t *testing.T) {
	m := mix(3)
	for range 500 {
		p, was := filled(t, &m)
		ends := pick(&m, []string{"LPUSH", "LPOP"}, []string{"RPUSH", "RPOP"}, []string{"LPUSHX", "LPOP"}, []string{"RPUSHX", "RPOP"})
		more := items(&m)
		p.ask(append([]string{ends[0], "a"}, more...)...)
		slices.Reverse(more)
		got := Do(p.sp, 0, []string{ends[1], "a", fmt.Sprint(len(more))})
		if want := bulks(more); !same(got, want) {
			t.Fatalf("%s of what was pushed: %s; want %s", ends[1], told(got), told(want))
		}
		if now := p.entriesOf("a"); !slices.Equal(now, was) {
			t.Fatalf("%q has become %q", was, now)
		}
	}
}

// TestLI2All: LTRIM of 0 and -1 leaves all; LRANGE of 0 and -1 tells all; LLEN is how many it tells, LINDEX each of them.
func TestLI2All(t *testing.T) {
	m := mix(4)
	for range 300 {
		p, was := filled(t, &m)
		p.want("LTRIM a 0 -1", "+OK")
		if now := p.entriesOf("a"); !slices.Equal(now, was) {
			t.Fatalf("LTRIM: %q has become %q", was, now)
		}
		if got, want := p.ask("LRANGE", "a", "0", "-1"), told(bulks(was)); got != want {
			t.Fatalf("LRANGE: %s; want %s", got, want)
		}
		p.want("LLEN a", fmt.Sprint(":", len(was)))
		for i, entry := range was {
			p.want(fmt.Sprint("LINDEX a ", i), "$"+entry)
			p.want(fmt.Sprint("LINDEX a ", i-len(was)), "$"+entry)
		}
	}
}

// TestLI2Move: LMOVE keeps the entries of both together.
func TestLI2Move(t *testing.T) {
	m := mix(6)
	for range 300 {
		p, _ := filled(t, &m)
		together := func() []string {
			return slices.Sorted(slices.Values(slices.Concat(p.entriesOf("a"), p.entriesOf("b"), p.entriesOf("made"))))
		}
		was := together()
		for range 12 {
			p.ask("LMOVE", pick(&m, "a", "b"), pick(&m, "a", "b", "made"), end(&m), end(&m))
			p.ask("RPOPLPUSH", pick(&m, "a", "b", "made"), pick(&m, "a", "b"))
		}
		if now := together(); !slices.Equal(now, was) {
			t.Fatalf("%q have become %q", was, now)
		}
	}
}

// rebuilt puts the entries of a list into another space by a way of its own, so that they lie in other nodes.
func rebuilt(sp *keyspace.Space, key string, entries []string, m *mix) {
	Do(sp, 0, []string{"RPUSH", key, "pivot"})
	for _, entry := range entries {
		Do(sp, 0, []string{"LINSERT", key, "BEFORE", "pivot", "no more"})
		Do(sp, 0, []string{"LINSERT", key, "AFTER", "no more", entry})
		Do(sp, 0, []string{"LREM", key, "1", "no more"})
		for range m.below(4) {
			Do(sp, 0, []string{"LINSERT", key, "AFTER", "pivot", "no more"})
		}
	}
	Do(sp, 0, []string{"LREM", key, "0", "no more"})
	Do(sp, 0, []string{"LREM", key, "0", "pivot"})
}

// TestLI2Kept: lists of the same entries that lie in other nodes answer alike.
func TestLI2Kept(t *testing.T) {
	t.Parallel()
	m := mix(9)
	differ := 0
	for range 300 {
		p, entries := filled(t, &m)
		one, other := newSpace(p.sp.Config().Limits), newSpace(p.sp.Config().Limits)
		Do(one, 0, append([]string{"RPUSH", "a"}, entries...))
		rebuilt(other, "a", entries, &m)
		v, _ := one.Peek(0, "a")
		w, _ := other.Peek(0, "a")
		if !v.Equal(w) {
			t.Fatalf("%q was rebuilt as %q", entriesIn(v), entriesIn(w))
		}
		if !slices.Equal(v.Raw(), w.Raw()) {
			differ++
		}
		for range 40 {
			words := likely(&m)
			if x, y := Do(one, 0, words), Do(other, 0, words); !same(x, y) {
				t.Fatalf("%s: %s and %s", line(words), told(x), told(y))
			}
			if x, y := seenIn(one, 0, "a").shows, seenIn(other, 0, "a").shows; x != y {
				t.Fatalf("%s: %s and %s", line(words), x, y)
			}
		}
	}
	if differ < 50 {
		t.Errorf("only %d lists lay in other nodes", differ)
	}
}

// TestMade: a list that is made has the space's thresholds, those of now.
func TestMade(t *testing.T) {
	sp := newSpace(someLimits())
	encoding := func(key string) string {
		v, _ := sp.Peek(0, key)
		return v.Encoding()
	}
	for _, words := range []string{"RPUSH a 1 2 3 4", "RPUSH b 1 2 3 4 5", "LPUSH c 1 nine....9", "RPUSH s 1", "LMOVE s d LEFT LEFT"} {
		Do(sp, 0, split(words))
	}
	c := sp.Config()
	c.Limits.ListEntries, c.Limits.ListBytes = 5, 9
	sp.Adjust(c)
	for _, words := range []string{"RPUSH e 1 2 3 4 5", "RPUSH f 1 nine....9", "RPUSH a 5", "RPUSH s 1", "LMOVE s g LEFT LEFT", "RPUSH g 2 3 4 5", "RPUSH d 2 3 4 5"} {
		Do(sp, 0, split(words))
	}
	for key, want := range map[string]string{"a": "quicklist", "b": "quicklist", "c": "quicklist", "d": "quicklist", "e": "listpack", "f": "listpack", "g": "listpack"} {
		if got := encoding(key); got != want {
			t.Errorf("%s is a %s; want %s", key, got, want)
		}
	}
}

// TestWorkedOn: a list is changed in its place: it is the same value, and its nodes are as the calls of layer 10 leave them.
func TestWorkedOn(t *testing.T) {
	limits := someLimits()
	limits.ListEntries = 2
	for _, c := range []struct{ line, nodes string }{
		{"LREM k 0 a", "b|c|b"}, {"LREM k 1 a", "b|a c|b"}, {"LREM k -1 a", "a b|c|b"}, {"LREM k 0 b", "a|a c"}, {"LREM k -1 b", "a b|a c"}, {"LTRIM k 1 3", "b|a c"}, {"LTRIM k 0 -1", "a b|a c|b"}, {"LTRIM k 2 3", "a c"}, {"LTRIM k 1 1", "b"},
		{"LPUSH k x y", "y x|a b|a c|b"}, {"RPUSH k x y", "a b|a c|b x|y"}, {"LPOP k", "b|a c|b"}, {"RPOP k 2", "a b|a"}, {"LSET k 1 x", "a x|a c|b"}, {"LSET k 0 nine....9", "nine....9|b|a c|b"}, {"LINSERT k BEFORE b x", "a x|b|a c|b"}, {"LINSERT k AFTER b x", "a b|x|a c|b"},
		{"LMOVE k k LEFT RIGHT", "b|a c|b a"}, {"LMOVE k k RIGHT LEFT", "b|a b|a c"}, {"LMPOP 1 k LEFT COUNT 3", "c|b"},
	} {
		p := newTrial(t, limits)
		p.want("RPUSH k a b a c b", ":5")
		was, _ := p.sp.Peek(0, "k")
		p.ask(split(c.line)...)
		now, _ := p.sp.Peek(0, "k")
		if was != now {
			t.Errorf("%s: another value", c.line)
		}
		if got := nodesOf(now.Raw()); got != c.nodes {
			t.Errorf("%s: the nodes are %s; want %s", c.line, got, c.nodes)
		}
	}
}

// nodesOf tells the entries of nodes.
func nodesOf(packs []string) string {
	var nodes []string
	for _, pack := range packs {
		entries, _ := listpack.Walk(pack, false)
		nodes = append(nodes, strings.Join(entries, " "))
	}
	return strings.Join(nodes, "|")
}
