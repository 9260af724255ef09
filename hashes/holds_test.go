package hashes

import (
	"fmt"
	"slices"
	"strings"
	"testing"

	"cistern/api"
	"cistern/keyspace"
)

// filled is a trial whose keys a and b are hashes of chance; what a holds.
func filled(t *testing.T, m *mix) (*trial, []string) {
	t.Helper()
	p := newTrial(t, pick(m, allLimits()...))
	for range 1 + m.below(6) {
		p.ask(append([]string{"HSET", "a"}, pairs(m)...)...)
		p.ask(append([]string{"HSET", "b"}, pairs(m)...)...)
	}
	return p, p.fieldsOf("a")
}

func (p *trial) fieldsOf(key string) []string {
	v, ok := p.sp.Peek(0, key)
	if !ok {
		return nil
	}
	return fieldsIn(v)
}

// TestHA2SetGet: HSET and then HGET tells the value, whatever the hash was; of a name that stands twice the last one.
func TestHA2SetGet(t *testing.T) {
	m := mix(3)
	for range 500 {
		p, _ := filled(t, &m)
		key, put := pick(&m, "a", "b", "made"), pairs(&m)
		p.ask(append([]string{pick(&m, "HSET", "HMSET"), key}, put...)...)
		last := map[string]string{}
		for i := 0; i < len(put); i += 2 {
			last[put[i]] = put[i+1]
		}
		for name, text := range last {
			p.wantWords("$"+text, "HGET", key, name)
			p.wantWords("[$"+text+"]", "HMGET", key, name)
			p.wantWords(":1", "HEXISTS", key, name)
			p.wantWords(fmt.Sprint(":", len(text)), "HSTRLEN", key, name)
		}
	}
}

// TestHA2SetErase: HDEL of a name that HSET brought leaves what was.
func TestHA2SetErase(t *testing.T) {
	m := mix(5)
	for i := range 500 {
		p, was := filled(t, &m)
		key, put, names := pick(&m, "a", "a", "made"), []string{}, []string{}
		for len(names) < 1+m.below(4) {
			name := fmt.Sprint("new", i, m.below(9))
			names, put = append(names, name), append(put, name, word(&m))
		}
		if got := Do(p.sp, 0, append([]string{"HSET", key}, put...)); got.Kind != api.ReplyInt || got.N < 1 {
			t.Fatalf("HSET of %q: %s", put, told(got))
		}
		if got := Do(p.sp, 0, append([]string{"HDEL", key}, names...)); got.Kind != api.ReplyInt || got.N < 1 {
			t.Fatalf("HDEL of %q: %s", names, told(got))
		}
		if now := p.fieldsOf("a"); !slices.Equal(now, was) {
			t.Fatalf("%q has become %q", was, now)
		}
		if _, there := p.sp.Peek(0, "made"); there {
			t.Fatalf("what was made of %q is still there", put)
		}
	}
}

// TestHA2Length: HLEN is how many HKEYS tells, and HVALS, and half of what HGETALL does, which is what they tell in turns.
func TestHA2Length(t *testing.T) {
	m := mix(6)
	for range 500 {
		p, _ := filled(t, &m)
		p.ask(append([]string{"HDEL", "a"}, pairs(&m)...)...)
		for _, key := range []string{"a", "b", "none"} {
			ask := func(name string) api.Reply { return Do(p.sp.Clone(), 0, []string{name, key}) }
			n, names, values, all := ask("HLEN").N, texts(ask("HKEYS"))[1:], texts(ask("HVALS"))[1:], texts(ask("HGETALL"))[1:]
			if len(names) != n || len(values) != n || len(all) != 2*n || !slices.IsSorted(names) {
				t.Fatalf("%s: %d, %q, %q, %q", key, n, names, values, all)
			}
			for i, name := range names {
				if all[2*i] != name || all[2*i+1] != values[i] || i > 0 && name == names[i-1] {
					t.Fatalf("%s: %q, %q, %q", key, names, values, all)
				}
				p.wantWords("$"+values[i], "HGET", key, name)
			}
		}
	}
}

// rebuilt makes a hash of the same fields in another space by a way of its own, so that it is kept otherwise.
func rebuilt(sp *keyspace.Space, key string, fields []string, m *mix) {
	order := slices.Collect(slices.Chunk(fields, 2))
	for i := range order {
		j := m.below(i + 1)
		order[i], order[j] = order[j], order[i]
	}
	passing := [][]string{{"p"}, {"p", "p2", "p3"}, {"long and longer than a compact one may be"}, {"p2", "p3", "p4", "p5", "p6"}}[m.below(4)]
	for _, name := range passing {
		Do(sp, 0, []string{"HSET", key, name, strings.Repeat("x", 1+m.below(20))})
	}
	for _, f := range order {
		Do(sp, 0, []string{"HSET", key, f[0], "for a while"})
	}
	for _, f := range order {
		Do(sp, 0, []string{"HSET", key, f[0], f[1]})
	}
	Do(sp, 0, append([]string{"HDEL", key}, passing...))
}

// TestHA2Kept: hashes of the same fields that are kept otherwise answer alike, but to HSCAN.
func TestHA2Kept(t *testing.T) {
	t.Parallel()
	m := mix(9)
	differ := 0
	for range 300 {
		p, _ := filled(t, &m)
		one, other := newSpace(p.sp.Config().Limits), newSpace(p.sp.Config().Limits)
		for _, key := range []string{"a", "b"} {
			fields := p.fieldsOf(key)
			Do(one, 0, append([]string{"HSET", key}, fields...))
			rebuilt(other, key, fields, &m)
			v, _ := one.Peek(0, key)
			w, _ := other.Peek(0, key)
			if !v.Equal(w) {
				t.Fatalf("%q was rebuilt as %q", fieldsIn(v), fieldsIn(w))
			}
			if kept(v) != kept(w) {
				differ++
			}
		}
		for range 40 {
			words := likely(&m)
			if words[0] == "hscan" {
				continue
			}
			if x, y := Do(one, 0, words), Do(other, 0, words); !same(x, y) {
				t.Fatalf("%s: %s and %s", line(words), told(x), told(y))
			}
			for _, key := range one.Keys(0) {
				if x, y := seenIn(one, 0, key).shows, seenIn(other, 0, key).shows; x != y {
					t.Fatalf("%s: %s is %s and %s", line(words), key, x, y)
				}
			}
		}
	}
	if differ < 100 {
		t.Errorf("only %d hashes were kept otherwise", differ)
	}
}

// TestMade: a hash that is made has the space's thresholds, those of now; one that is there keeps its own.
func TestMade(t *testing.T) {
	sp := newSpace(someLimits())
	for _, words := range []string{"HSET a 1 1 2 2 3 3 4 4", "HSET b 1 1 2 2 3 3 4 4 5 5", "HSET c a nine....9", "HINCRBY d a 1", "HSETNX e a 1"} {
		Do(sp, 0, split(words))
	}
	c := sp.Config()
	c.Limits.HashEntries, c.Limits.HashBytes = 6, 9
	sp.Adjust(c)
	for _, words := range []string{"HSET a 5 5", "HSET c b 1", "HSET d b 1 c 2 d 3 e 4", "HSET e nine....9 1", "HSET f 1 1 2 2 3 3 4 4 5 5 6 6", "HMSET g a nine....9", "HSETNX h nine....9 1", "HINCRBY i nine....9 1", "HSET j a ten.....10"} {
		Do(sp, 0, split(words))
	}
	for key, want := range map[string]string{"a": "hashtable", "b": "hashtable", "c": "hashtable", "d": "hashtable", "e": "hashtable", "f": "listpack", "g": "listpack", "h": "listpack", "i": "listpack", "j": "hashtable"} {
		v, ok := sp.Peek(0, key)
		if !ok || v.Encoding() != want {
			t.Errorf("%s is there: %v; want it as %s", key, ok, want)
		}
	}
}

// TestWorkedOn: a hash is changed in its place: it is the same value.
func TestWorkedOn(t *testing.T) {
	for _, sample := range samples() {
		p := withHashes(t)
		was, _ := p.sp.Peek(0, "h")
		p.ask(split(sample)...)
		if now, there := p.sp.Peek(0, "h"); there && was != now {
			t.Errorf("%s: h has another value", sample)
		}
	}
}
