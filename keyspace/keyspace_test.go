package keyspace

import (
	"fmt"
	"math"
	"slices"
	"strings"
	"testing"

	"cistern/api"
	"cistern/value"
)

func TestExamples(t *testing.T) {
	p := newPair(t, config(2))
	p.want(put(0, "a", api.KindString, 1), api.OK)
	p.want(expire(0, "a", 10), true)
	p.want(advance(9), 0, api.OK)
	p.want(length(0), 1)
	p.want(advance(1), 1, api.OK)
	p.want(peek(0, "a"), (*value.Value)(nil), false)
	p.want(put(0, "a", api.KindList, 2), api.OK)
	p.want(put(0, "b", api.KindSet, 2), api.OK)
	p.want(idle(0, "a"), 1)
	p.just(get(0, "a"))
	p.want(idle(0, "a"), 0)
	p.want(mark(0, "zz"), 0)
}

// configs are a sound one with one field at, below and above its ends each, and whether it may be.
func configs() map[api.Config]bool {
	list := map[api.Config]bool{config(3): true}
	add := func(may bool, change func(c *api.Config)) {
		c := config(3)
		change(&c)
		list[c] = may
	}
	for _, n := range []int{math.MinInt, -1, 0, 1, 2, 15, 16, 17, math.MaxInt} {
		add(1 <= n && n <= 16, func(c *api.Config) { c.Spaces = n })
		add(0 <= n, func(c *api.Config) { c.Memory = n })
	}
	for _, n := range []int{math.MinInt, -1, 0, 1, 2, 3, 4, 7, 8, 9, math.MaxInt} {
		add(0 <= n && n <= 3, func(c *api.Config) { c.Policy = n })
		add(0 <= n && n <= 8, func(c *api.Config) { c.Keep = n })
	}
	add(true, func(c *api.Config) { c.Compress = true })
	for _, n := range []int{math.MinInt, -1, 0, 1, 4096, 4097, math.MaxInt} {
		add(1 <= n && n <= 4096, func(c *api.Config) { c.Limits.ListEntries = n })
		add(0 <= n && n <= 4096, func(c *api.Config) { c.Limits.ListBytes = n })
		add(0 <= n && n <= 4096, func(c *api.Config) { c.Limits.SetEntries = n })
		add(0 <= n && n <= 4096, func(c *api.Config) { c.Limits.SetBytes = n })
		add(0 <= n && n <= 4096, func(c *api.Config) { c.Limits.ZsetEntries = n })
		add(0 <= n && n <= 4096, func(c *api.Config) { c.Limits.ZsetBytes = n })
		add(0 <= n && n <= 4096, func(c *api.Config) { c.Limits.HashEntries = n })
		add(0 <= n && n <= 4096, func(c *api.Config) { c.Limits.HashBytes = n })
	}
	for _, n := range []int{-1, 0, api.MaxCount, api.MaxCount + 1} {
		add(0 <= n && n <= api.MaxCount, func(c *api.Config) { c.Limits.SetInts = n })
	}
	return list
}

// TestKS1New: each field of a Config at, below and above its ends; a new space has nothing.
func TestKS1New(t *testing.T) {
	for c, may := range configs() {
		s, err := New(c)
		if may != (err == api.OK) || !may && (s != nil || err != api.ErrArg) {
			t.Fatalf("New(%+v): %v, error %d", c, s, err)
		}
		if may {
			p := newPair(t, c)
			p.look()
			p.want(put(c.Spaces-1, "a", api.KindString, 0), api.OK)
			p.want(put(c.Spaces, "a", api.KindString, 0), api.ErrArg)
		}
	}
	if s, err := New(api.Config{}); s != nil || err != api.ErrArg {
		t.Errorf("New of nothing: error %d", err)
	}
}

// TestKS1Adjust: as New, but with as many databases; what is held stays as it is.
func TestKS1Adjust(t *testing.T) {
	p := newPair(t, config(3))
	for _, kind := range kinds {
		p.ask(put(1, fmt.Sprint("k", kind), kind, 2), put(1, fmt.Sprint("long", kind), kind, 9))
	}
	p.ask(expire(1, "k2", 50), advance(4))
	for c, may := range configs() {
		want := api.ErrArg
		if may && c.Spaces == 3 {
			want = api.OK
		}
		p.want(adjust(c), want)
	}
	for _, n := range []int{1, 2, 4, 16} {
		p.want(adjust(config(n)), api.ErrArg)
	}
	c := config(3)
	c.Memory, c.Policy, c.Keep, c.Compress, c.Limits.SetInts = 9, 2, 8, true, 0
	p.want(adjust(c), api.OK)
	if got := p.s.Config(); got != c {
		t.Errorf("Config() = %+v; want %+v", got, c)
	}
}

// TestKS1AdjustMemory: a memory and a policy hold as soon as they are set.
func TestKS1AdjustMemory(t *testing.T) {
	p := newPair(t, config(2))
	p.ask(put(0, "a", api.KindString, 1), put(1, "b", api.KindString, 1))
	p.want(spare(1), []string{}, api.OK)
	c := config(2)
	c.Memory = 114
	p.want(adjust(c), api.OK)
	p.want(spare(0), []string{}, api.ErrFull)
	c.Policy = api.PolicyOldest
	p.want(adjust(c), api.OK)
	p.want(spare(0), []string{"0:a"}, api.OK)
}

// filled is a pair with values of each kind, expiries, marks, uses, a clock, and a dict that moves.
func filled(t testing.TB) *pair {
	p := newPair(t, config(3))
	for _, kind := range kinds {
		p.just(put(0, fmt.Sprint("k", kind), kind, 2))
		p.just(put(1, fmt.Sprint("long", kind), kind, 9))
		p.just(get(0, "k1"))
	}
	for i := range 40 {
		p.just(put(2, fmt.Sprint("n", i), api.KindString, i))
	}
	p.ask(drop(2, "n0"), expire(0, "k2", 50), expire(1, "long1", 60), expire(2, "n39", 70), advance(4), random(9), random(9))
	if _, second, _ := p.m.dicts[0].Tables(); second == 0 {
		t.Fatalf("no move goes on")
	}
	return p
}

// TestKS1Clone: a clone answers as the space would; neither sees what the other does.
func TestKS1Clone(t *testing.T) {
	for seed := range 20 {
		p := filled(t)
		q := p.clone()
		q.look()
		m := mix(seed + 1)
		for range 60 {
			one, other := p, q
			if m.below(2) == 0 {
				one, other = q, p
			}
			one.ask(anyCall(&m))
			other.look()
		}
		for range 5 {
			p.ask(random(1 << 30))
			q.ask(random(1 << 30))
		}
	}
}

// TestKS1CloneValues: work on a value of one is not seen by the other, of no kind; keys that have one value together still have.
func TestKS1CloneValues(t *testing.T) {
	for _, kind := range kinds {
		s, _ := New(config(2))
		v := hold(kind, 2)
		for db, key := range []string{"a", "b"} {
			if err := s.Put(db, key, v); err != api.OK {
				t.Fatal(err)
			}
		}
		o := s.Clone()
		w, _ := o.Get(0, "a")
		before := seen(v)
		if w == v || seen(w) != before {
			t.Fatalf("the clone's value is %s; want one like %s", seen(w), before)
		}
		work(w, 3)
		if x, _ := o.Peek(1, "b"); x != w {
			t.Errorf("kind %d: two keys of the clone have not one value together", kind)
		}
		if seen(v) != before || s.Used() == o.Used() {
			t.Errorf("kind %d: the space sees work on its clone: %s", kind, seen(v))
		}
		work(v, -1)
		if got := w.Len(); got != 5 {
			t.Errorf("kind %d: the clone sees work on the space: %d elements", kind, got)
		}
	}
}

// TestKS2Advance: below 0, 0, up to MaxNumber and beyond; keys of several databases.
func TestKS2Advance(t *testing.T) {
	p := newPair(t, config(4))
	for _, n := range []int{-1, math.MinInt, api.MaxNumber + 1, math.MaxInt} {
		p.want(advance(n), 0, api.ErrArg)
	}
	p.want(advance(0), 0, api.OK)
	for db := range 4 {
		for i := range 12 {
			p.just(put(db, fmt.Sprint("k", i), api.KindString, 1))
		}
		p.ask(expire(db, "k3", 10), expire(db, "k7", 9), expire(db, "k1", 11), expire(db, "k11", 10), expire(db, "k0", api.MaxNumber), expire(db, "k4", api.MaxNumber-1))
	}
	p.ask(move(3, "k5", 2), drop(0, "k3"))
	p.want(advance(8), 0, api.OK)
	p.want(advance(0), 0, api.OK)
	p.want(advance(1), 4, api.OK)
	p.want(advance(1), 7, api.OK)
	p.want(advance(0), 0, api.OK)
	p.want(advance(1), 4, api.OK)
	p.want(advance(api.MaxNumber-10), 0, api.ErrArg)
	p.want(advance(api.MaxNumber-12), 4, api.OK)
	p.want(advance(2), 0, api.ErrArg)
	p.want(advance(math.MaxInt), 0, api.ErrArg)
	p.want(advance(1), 4, api.OK)
	p.want(advance(0), 0, api.OK)
	p.want(advance(1), 0, api.ErrArg)
	if p.s.Now() != api.MaxNumber {
		t.Errorf("Now() = %d", p.s.Now())
	}
}

// TestKS2Order: the keys that go at one time go by rising key, as the places of a scan show.
func TestKS2Order(t *testing.T) {
	for n := range 60 {
		p := newPair(t, config(2))
		for i := range n {
			p.just(put(i%2, fmt.Sprint("k", i*7%60), api.KindString, 1))
			if i%3 != 0 {
				p.just(expire(i%2, fmt.Sprint("k", i*7%60), 1+i%4))
			}
		}
		p.look()
		p.ask(advance(2), advance(1), advance(5))
	}
}

// TestKS3GetPeek: the value itself; Get uses the key, Peek does not.
func TestKS3GetPeek(t *testing.T) {
	p := newPair(t, config(2))
	v := text("x")
	if err := p.s.Put(0, "a", v); err != api.OK {
		t.Fatal(err)
	}
	p.m.Put(0, "a", v)
	p.ask(put(0, "b", api.KindHash, 1), put(1, "a", api.KindList, 1))
	p.want(idle(0, "a"), 2)
	if got, ok := p.s.Peek(0, "a"); got != v || !ok {
		t.Errorf("Peek tells a copy")
	}
	p.want(idle(0, "a"), 2)
	if got, ok := p.s.Get(0, "a"); got != v || !ok {
		t.Errorf("Get tells a copy")
	}
	p.m.Get(0, "a")
	p.look()
	p.want(idle(0, "a"), 0)
	p.want(idle(0, "b"), 2)
	p.want(idle(1, "a"), 1)
	p.want(get(0, "c"), (*value.Value)(nil), false)
	p.want(get(1, "b"), (*value.Value)(nil), false)
	p.want(peek(0, ""), (*value.Value)(nil), false)
	p.want(idle(0, "a"), 0)
	p.ask(get(0, "a"), get(0, "a"), get(0, "b"))
	p.want(idle(0, "a"), 1)
	p.want(idle(1, "a"), 4)
}

// TestKS3Put: values of each kind, empty ones, nil; keys of all lengths.
func TestKS3Put(t *testing.T) {
	p := newPair(t, config(2))
	p.want(put(0, "a", api.KindNone, 0), api.ErrArg)
	long, longer := strings.Repeat("k", api.MaxKey), strings.Repeat("k", api.MaxKey+1)
	for _, kind := range kinds {
		want := api.ErrArg
		if kind == api.KindString {
			want = api.OK
		}
		p.want(put(0, "empty", kind, 0), want)
		p.want(put(0, fmt.Sprint(kind), kind, 1), api.OK)
		p.want(put(1, fmt.Sprint(kind), kind, 9), api.OK)
		p.want(put(1, fmt.Sprint(kind), kind, 2), api.OK)
		p.want(put(1, "", kind, 2), api.OK)
		p.want(put(1, long, kind, 2), api.OK)
		p.want(put(1, longer, kind, 2), api.ErrLong)
		p.want(put(1, "\x00\xff\n", kind, 2), api.OK)
	}
	p.want(put(0, "empty", api.KindList, 0), api.ErrArg) // over one that is there
	p.want(put(0, longer, api.KindList, 0), api.ErrArg)  // the first error that is named
	p.want(put(0, longer, api.KindNone, 0), api.ErrArg)
	p.want(put(2, longer, api.KindString, 0), api.ErrArg)
}

// TestKS3PutOver: a key that is given a value anew has no expiry, another mark, and was used last.
func TestKS3PutOver(t *testing.T) {
	p := newPair(t, config(1))
	p.ask(put(0, "a", api.KindString, 1), put(0, "b", api.KindString, 1), expire(0, "a", 10))
	before := p.s.Mark(0, "a")
	p.want(put(0, "a", api.KindList, 3), api.OK)
	p.want(expiry(0, "a"), -1, true)
	p.want(idle(0, "a"), 0)
	if p.s.Mark(0, "a") <= before {
		t.Errorf("the mark is as it was")
	}
	p.want(advance(20), 0, api.OK)
	p.want(length(0), 1+1)
}

// TestKS3PutFull: at MaxKeys keys of all databases a key that is there may be put, another one not.
func TestKS3PutFull(t *testing.T) {
	t.Parallel()
	s, _ := New(config(16))
	v := text("x")
	for i := range api.MaxKeys {
		if err := s.Put(i%16, fmt.Sprint(i/16), v); err != api.OK {
			t.Fatalf("Put of key %d: error %d", i, err)
		}
	}
	used, mark := s.Used(), s.Mark(15, fmt.Sprint(api.MaxKeys/16-1))
	long := strings.Repeat("k", api.MaxKey+1)
	for _, c := range []struct {
		db   int
		key  string
		v    *value.Value
		want api.Errno
	}{{0, "x", v, api.ErrFull}, {15, "", v, api.ErrFull}, {0, long, v, api.ErrLong}, {0, "x", nil, api.ErrArg}, {0, "7", v, api.OK}, {15, "8191", v, api.OK}} {
		if got := s.Put(c.db, c.key, c.v); got != c.want {
			t.Errorf("Put(%d, %s) = %d; want %d", c.db, short(c.key), got, c.want)
		}
		if s.Len(-1) != api.MaxKeys || s.Len(0) != api.MaxKeys/16 || s.Used() != used {
			t.Fatalf("behind Put(%d, %s): %d keys", c.db, short(c.key), s.Len(-1))
		}
	}
	if got := s.Mark(15, "8191"); got != mark+2 {
		t.Errorf("Mark = %d; want %d: a refused Put has one", got, mark+2)
	}
	if s.Rename(3, "5", "new") != api.OK || s.Move(3, "new", 4) != api.OK || s.Len(-1) != api.MaxKeys {
		t.Errorf("a full space renames and moves nothing")
	}
	s.Drop(9, "9")
	if got := []api.Errno{s.Put(0, "x", v), s.Put(0, "y", v)}; got[0] != api.OK || got[1] != api.ErrFull {
		t.Errorf("behind a Drop: %v", got)
	}
	if got := s.Flush(-1); got != api.MaxKeys {
		t.Errorf("Flush(-1) = %d", got)
	}
}

// TestKS3Changed: a value that has become empty, one that has not, no key.
func TestKS3Changed(t *testing.T) {
	for _, kind := range kinds {
		p := newPair(t, config(2))
		p.ask(put(1, "a", kind, 3), put(1, "b", kind, 1), put(0, "a", kind, 1), expire(1, "a", 9))
		before := p.s.Mark(1, "a")
		p.want(changed(1, "a"), true)
		p.ask(worked(1, "a", 5))
		p.want(changed(1, "a"), true)
		if got := p.s.Mark(1, "a"); got != before+3-1 {
			t.Errorf("kind %d: Mark = %d; want %d", kind, got, before+2)
		}
		p.want(idle(1, "a"), 2)
		p.want(expiry(1, "a"), 9, true)
		p.ask(worked(1, "a", -8))
		p.want(length(1), 2) // an empty one is there till Changed is said
		p.want(changed(1, "a"), true)
		if kind == api.KindString {
			p.want(length(1), 2)
			continue
		}
		p.want(length(1), 1)
		p.want(mark(1, "a"), 0)
		p.want(changed(1, "a"), false)
		p.want(changed(0, "b"), false)
		p.want(put(1, "a", kind, 1), api.OK)
		p.want(expiry(1, "a"), -1, true)
	}
}

// TestKS3Drop: whether it was there; it goes with all that was known of it.
func TestKS3Drop(t *testing.T) {
	p := newPair(t, config(2))
	p.ask(put(0, "a", api.KindString, 1), put(1, "a", api.KindString, 1), put(0, "", api.KindSet, 2), expire(0, "a", 7))
	p.want(drop(0, "b"), false)
	p.want(drop(1, ""), false)
	p.want(drop(0, "a"), true)
	p.want(drop(0, "a"), false)
	p.want(mark(0, "a"), 0)
	p.want(idle(0, "a"), -1)
	p.want(length(-1), 2)
	p.want(put(0, "a", api.KindString, 1), api.OK)
	p.want(expiry(0, "a"), -1, true)
	p.want(drop(0, ""), true)
	p.want(advance(9), 0, api.OK)
}

// TestKS4Expire: times below, at and above the clock and above MaxNumber; keys with an expiry, without, that are not there.
func TestKS4Expire(t *testing.T) {
	for _, first := range []int{never, 1005} {
		for _, at := range []int{math.MinInt, -1, 0, 1, 999, 1000, 1001, 1005, 1010, api.MaxNumber - 1, api.MaxNumber, api.MaxNumber + 1, math.MaxInt} {
			p := newPair(t, config(2))
			p.ask(advance(1000), put(1, "a", api.KindZset, 3), put(1, "b", api.KindSet, 3), put(0, "a", api.KindZset, 1))
			if first != never {
				p.want(expire(1, "a", first), true)
			}
			p.want(expiry(1, "a"), first, true)
			before, used := p.s.Mark(1, "a"), p.s.Used()
			p.want(expire(1, "a", at), true)
			if at <= 1000 {
				p.want(expiry(1, "a"), 0, false)
				p.want(mark(1, "a"), 0)
				p.want(expire(1, "a", at), false)
				continue
			}
			p.want(expiry(1, "a"), min(at, api.MaxNumber), true)
			if p.s.Mark(1, "a") <= before || p.s.Idle(1, "a") != 2 {
				t.Errorf("Expire at %d: mark %d, idle %d", at, p.s.Mark(1, "a"), p.s.Idle(1, "a"))
			}
			if want := used + 16; first == never && p.s.Used() != want {
				t.Errorf("Used() = %d; want %d", p.s.Used(), want)
			}
			p.want(expire(1, "a", at), true)
			p.want(expiry(0, "a"), -1, true)
			p.want(advance(min(at, api.MaxNumber)-1000-1), 0, api.OK)
			p.want(advance(1), 1, api.OK)
		}
	}
	p := newPair(t, config(2))
	p.want(advance(api.MaxNumber), 0, api.OK)
	p.ask(put(0, "a", api.KindString, 0))
	p.want(expire(0, "a", math.MaxInt), true) // it counts as the clock
	p.want(length(0), 0)
	p.want(expiry(0, "a"), 0, false)
	p.want(persist(0, "a"), false)
}

// TestKS4Persist: keys that have an expiry, have none, are not there.
func TestKS4Persist(t *testing.T) {
	p := newPair(t, config(2))
	p.ask(put(0, "a", api.KindString, 1), put(1, "a", api.KindString, 1), expire(0, "a", 5))
	p.want(persist(1, "a"), false)
	p.want(persist(0, "b"), false)
	before := p.s.Mark(0, "a")
	p.want(persist(0, "a"), true)
	if p.s.Mark(0, "a") != before+1 || p.s.Idle(0, "a") != 1 {
		t.Errorf("Persist: mark %d, idle %d", p.s.Mark(0, "a"), p.s.Idle(0, "a"))
	}
	p.want(persist(0, "a"), false)
	p.want(expiry(0, "a"), -1, true)
	p.want(advance(5), 0, api.OK)
	p.want(expire(0, "a", 6), true)
	p.want(advance(1), 1, api.OK)
	p.want(persist(0, "a"), false)
}

// TestKS5Rename: to itself, to a key that is there, to none, of none, too long, with an expiry.
func TestKS5Rename(t *testing.T) {
	long, longer := strings.Repeat("k", api.MaxKey), strings.Repeat("k", api.MaxKey+1)
	p := newPair(t, config(2))
	p.ask(put(0, "a", api.KindString, 1), put(0, "b", api.KindList, 2), put(0, "c", api.KindHash, 2), put(1, "d", api.KindSet, 2), expire(0, "a", 10), expire(0, "b", 20))
	p.want(rename(0, "a", "a"), api.OK)
	p.want(rename(0, "x", "x"), api.ErrNone)
	p.want(rename(0, "x", "a"), api.ErrNone)
	p.want(rename(1, "a", "d"), api.ErrNone)
	p.want(rename(0, "a", longer), api.ErrLong)
	p.want(rename(0, "x", longer), api.ErrLong)
	p.want(rename(0, longer, longer), api.ErrLong)
	p.want(rename(2, "x", longer), api.ErrArg)
	p.want(rename(-1, "a", "b"), api.ErrArg)
	before := p.s.Mark(0, "b")
	p.want(rename(0, "a", "b"), api.OK) // over one with another expiry
	p.want(expiry(0, "b"), 10, true)
	p.want(idle(0, "b"), 0)
	if got := p.s.Mark(0, "b"); got != before+1 {
		t.Errorf("Mark = %d", got)
	}
	p.want(mark(0, "a"), 0)
	p.want(rename(0, "c", "b"), api.OK) // without one over one that has one
	p.want(expiry(0, "b"), -1, true)
	p.want(rename(0, "b", long), api.OK)
	p.want(rename(0, long, ""), api.OK)
	p.want(rename(0, "", "d"), api.OK)
	p.want(length(0), 1)
	p.want(advance(30), 0, api.OK)
}

// TestKS5RenameScan: a rename touches the dict by just the steps that are named, as the places of a scan show.
func TestKS5RenameScan(t *testing.T) {
	for n := 2; n < 40; n++ {
		p := newPair(t, config(2))
		for i := range n {
			p.just(put(0, fmt.Sprint(i), api.KindString, i))
		}
		p.ask(rename(0, "0", "new"), rename(0, "1", "new"), rename(0, "new", "new"), rename(0, "0", "7"), move(0, "new", 1), move(0, "0", 1))
	}
}

// TestKS5Move: to the same database, to one that has the key, to none, with an expiry.
func TestKS5Move(t *testing.T) {
	p := newPair(t, config(3))
	p.ask(put(0, "a", api.KindString, 1), put(0, "b", api.KindList, 2), put(1, "b", api.KindHash, 2), expire(0, "a", 10))
	p.want(move(0, "a", 0), api.ErrArg)
	p.want(move(0, "x", 0), api.ErrArg)
	for _, db := range []int{-1, 3, math.MinInt, math.MaxInt} {
		p.want(move(0, "a", db), api.ErrArg)
		p.want(move(db, "a", 0), api.ErrArg)
		p.want(move(db, "a", db), api.ErrArg)
	}
	p.want(move(0, "x", 1), api.ErrNone)
	p.want(move(1, "a", 0), api.ErrNone)
	p.want(move(0, "b", 1), api.ErrFull)
	p.want(move(1, "b", 0), api.ErrFull)
	before := p.s.Mark(0, "a")
	p.want(move(0, "a", 2), api.OK)
	p.want(mark(0, "a"), 0)
	p.want(mark(2, "a"), before+1)
	p.want(idle(2, "a"), 0)
	p.want(expiry(2, "a"), 10, true)
	p.want(move(0, "b", 2), api.OK)
	p.want(expiry(2, "b"), -1, true)
	p.want(length(0), 0)
	p.want(put(0, "a", api.KindString, 3), api.OK)
	p.want(advance(10), 1, api.OK)
	p.want(length(0), 1)
	p.want(length(2), 1)
}

// TestKS5Swap: two databases, one with itself, with an empty one, with none; the marks behind it.
func TestKS5Swap(t *testing.T) {
	p := newPair(t, config(3))
	p.ask(put(0, "b", api.KindString, 1), put(0, "a", api.KindString, 2), put(1, "c", api.KindString, 3), put(1, "a", api.KindString, 4), expire(0, "a", 9))
	for _, db := range []int{-1, 3, math.MinInt, math.MaxInt} {
		p.want(swap(0, db), api.ErrArg)
		p.want(swap(db, 0), api.ErrArg)
		p.want(swap(db, db), api.ErrArg)
	}
	p.want(swap(0, 0), api.OK)
	p.want(mark(0, "a"), 5)
	p.want(swap(0, 1), api.OK)
	p.want(mark(0, "a"), 6)
	p.want(mark(0, "c"), 7)
	p.want(mark(1, "a"), 8)
	p.want(mark(1, "b"), 9)
	p.want(expiry(1, "a"), 9, true)
	p.want(expiry(0, "a"), -1, true)
	p.want(idle(0, "c"), 1)
	p.want(swap(1, 0), api.OK)
	p.want(mark(1, "a"), 10)
	p.want(mark(0, "b"), 13)
	p.want(swap(2, 0), api.OK)
	p.want(length(0), 0)
	p.want(mark(2, "a"), 14)
	p.want(keys(2), []string{"a", "b"})
	p.want(advance(9), 1, api.OK)
}

// TestKS5SwapScan: the places of a scan go with a database.
func TestKS5SwapScan(t *testing.T) {
	p := newPair(t, config(2))
	for i := range 17 {
		p.just(put(0, fmt.Sprint(i), api.KindString, i))
	}
	p.ask(swap(0, 1), put(0, "3", api.KindString, 1), put(1, "3", api.KindString, 1), drop(1, "4"), swap(1, 0), put(0, "7", api.KindString, 2))
}

// TestKS5Flush: one, all, none; the dict is a new one.
func TestKS5Flush(t *testing.T) {
	p := newPair(t, config(3))
	fill := func() {
		for i := range 9 {
			p.just(put(0, fmt.Sprint(i), api.KindString, i))
			p.just(put(2, fmt.Sprint(i), api.KindString, i))
		}
		p.ask(expire(0, "1", 50), expire(2, "2", 50))
	}
	fill()
	p.want(flush(1), 0)
	p.want(flush(3), 0)
	p.want(flush(math.MaxInt), 0)
	p.want(flush(0), 9)
	p.want(flush(0), 0)
	p.want(mark(0, "1"), 0)
	p.want(length(-1), 9)
	fill()
	p.want(flush(-1), 18)
	p.want(flush(math.MinInt), 0)
	fill()
	p.want(flush(math.MinInt), 18)
	fill()
	for i := range 9 {
		p.ask(drop(0, fmt.Sprint(i)))
	}
	p.want(flush(0), 0) // of an empty database too
	p.want(put(0, "1", api.KindString, 0), api.OK)
	p.want(expiry(0, "1"), -1, true)
	p.want(advance(50), 1, api.OK)
}

// TestKS6Lists: Len, Keys and Pick with n below 0, 0, some and more than there are.
func TestKS6Lists(t *testing.T) {
	p := newPair(t, config(2))
	p.want(pick(0, 0), "", false)
	p.want(keys(0), []string{})
	for _, key := range []string{"b", "", "ab", "\xff", "a", "\x00", "B"} {
		p.ask(put(0, key, api.KindString, 1))
	}
	p.ask(put(1, "z", api.KindString, 1))
	rising := []string{"", "\x00", "B", "a", "ab", "b", "\xff"}
	p.want(keys(0), rising)
	p.want(length(0), 7)
	p.want(length(-1), 8)
	p.want(length(math.MinInt), 8)
	p.want(length(2), 0)
	for n := -9; n < 30; n++ {
		p.want(pick(0, n), rising[max(n, 0)%7], true)
		p.want(pick(1, n), "z", true)
		p.want(pick(2, n), "", false)
		p.want(pick(-1, n), "", false)
	}
	p.want(pick(0, math.MaxInt), rising[math.MaxInt%7], true)
	p.want(pick(0, math.MinInt), "", true)
	p.want(keys(-1), []string{})
	p.want(keys(2), []string{})
}

// TestKS6Scan: cursors and numbers of any kind, in tables of several sizes, and where a dict moves.
func TestKS6Scan(t *testing.T) {
	p := newPair(t, config(2))
	for i := range 70 {
		for _, cursor := range []int{math.MinInt, -1, 0, 1, 2, 3, 5, 8, 17, 31, 64, 1 << 40, math.MaxInt} {
			for _, n := range []int{math.MinInt, -1, 0, 1, 2, 7, 100, math.MaxInt} {
				p.check(scan(0, cursor, n))
			}
			p.want(scan(-1, cursor, 9), []string{}, 0)
			p.want(scan(2, cursor, 9), []string{}, 0)
		}
		p.just(put(0, fmt.Sprint(i), api.KindString, 1))
		if i%5 == 0 {
			p.just(put(0, fmt.Sprint(i/2), api.KindString, 2))
		}
	}
}

// TestKS7Used: what each key costs, behind each change of it, also where nothing was said of work on a value.
func TestKS7Used(t *testing.T) {
	p := newPair(t, config(2))
	want := func(n int) {
		t.Helper()
		if got := p.s.Used(); got != n {
			t.Errorf("Used() = %d; want %d", got, n)
		}
	}
	want(0)
	p.ask(put(0, "key", api.KindString, 5))
	want(3 + 48 + 5 + 64)
	p.ask(expire(0, "key", 9))
	want(3 + 48 + 5 + 64 + 16)
	p.ask(put(1, "", api.KindList, 3))
	want(136 + 48 + 3*17 + 64)
	p.ask(worked(1, "", 1))
	want(136 + 48 + 4*17 + 64)
	p.ask(worked(0, "key", -3))
	want(133 + 48 + 4*17 + 64)
	p.ask(persist(0, "key"), rename(1, "", "longer"))
	want(117 + 6 + 48 + 4*17 + 64)
	p.ask(drop(0, "key"))
	want(6 + 48 + 4*17 + 64)
	p.ask(flush(-1))
	want(0)
}

// TestKS11Random: the first numbers by the chapter's rule, reckoned elsewhere; n below 1 leaves x.
func TestKS11Random(t *testing.T) {
	p := newPair(t, config(1))
	for _, x := range []int{908834774, 1093944153, 1392341196, 822192870, 1708211034, 1074839795, 1189567130, 140486902} {
		for _, n := range []int{0, -1, math.MinInt} {
			p.want(random(n), 0)
		}
		q := p.clone()
		q.want(random(1), 0)
		q = p.clone()
		q.want(random(10), x%10)
		q = p.clone()
		q.want(random(1<<31), x)
		p.want(random(math.MaxInt), x)
	}
	for n := 1; n < 500; n++ {
		p.ask(random(n))
	}
}

// memory is a space with a bound and a policy: a and b in database 0, c, d and e in 1; d, a, e, b expire.
func memory(t testing.TB, policy, most int) *pair {
	c := config(2)
	c.Policy, c.Memory = policy, most
	p := newPair(t, c)
	for i, key := range []string{"a", "b", "c", "d", "e"} {
		p.just(put(i/2-i/4, key, api.KindString, 1)) // 114 each, and 16 for an expiry
	}
	p.ask(expire(1, "d", 30), expire(0, "a", 20), expire(1, "e", 20), expire(0, "b", 10), get(0, "a"), get(1, "c"))
	return p
}

// TestKS8Spare: each policy, with memory for all, for some and for none; in what order keys go.
func TestKS8Spare(t *testing.T) {
	all := 5*114 + 4*16
	orders := map[int][]string{
		api.PolicyNone:     {},
		api.PolicyOldest:   {"0:b", "1:d", "1:e", "0:a", "1:c"},
		api.PolicyVolatile: {"0:b", "1:d", "1:e", "0:a"},
		api.PolicySoonest:  {"0:b", "1:e", "0:a", "1:d"},
	}
	for policy, order := range orders {
		memory(t, policy, 0).want(spare(math.MaxInt), []string{}, api.OK)
		for most := 1; most <= all+2; most++ {
			p := memory(t, policy, most)
			over, n := all-most, 0
			for over > 0 && n < len(order) {
				over -= 130
				if order[n] == "1:c" {
					over += 16
				}
				n++
			}
			want := api.OK
			if over > 0 {
				want = api.ErrFull
			}
			p.want(spare(0), order[:n], want)
			if want == api.OK {
				p.want(spare(-1), []string{}, api.OK)
			} else {
				p.want(spare(math.MinInt), []string{}, api.ErrFull)
			}
		}
	}
}

// TestKS8Need: what is needed counts beside what is used; below 0 it counts as 0.
func TestKS8Need(t *testing.T) {
	all := 5*114 + 4*16
	for _, policy := range []int{api.PolicyNone, api.PolicyOldest, api.PolicyVolatile, api.PolicySoonest} {
		for _, need := range []int{math.MinInt, -1, 0, 1, 2, 49, 50, 51, 180, 181, 500, all + 50, all + 51, math.MaxInt - 1, math.MaxInt} {
			memory(t, policy, all+50).ask(spare(need), spare(need))
			memory(t, policy, math.MaxInt).ask(spare(need), spare(need))
			memory(t, policy, 1).ask(spare(need), spare(need))
		}
	}
	p := memory(t, api.PolicyOldest, all+50)
	p.want(spare(50), []string{}, api.OK)
	p.want(spare(51), []string{"0:b"}, api.OK)
	p.want(spare(all+51), []string{"1:d", "1:e", "0:a", "1:c"}, api.ErrFull) // something has gone all the same
	p.want(length(-1), 0)
	p.want(spare(all+51), []string{}, api.ErrFull)
	p.want(spare(all+50), []string{}, api.OK)
}

// TestKS8Work: work on a value counts, of which nothing was said.
func TestKS8Work(t *testing.T) {
	p := memory(t, api.PolicyOldest, 5*114+4*16)
	p.want(spare(0), []string{}, api.OK)
	p.ask(worked(1, "d", 1))
	p.want(spare(0), []string{"0:b"}, api.OK)
}

// TestKS8Equal: of equal expiries the one of the least use goes first; names are told with the database's digits.
func TestKS8Equal(t *testing.T) {
	c := config(16)
	c.Policy, c.Memory = api.PolicySoonest, 1
	p := newPair(t, c)
	var want []string
	for i := range 40 {
		key := fmt.Sprint("k:", i%7)
		p.just(put(i*5%16, key, api.KindString, 1))
		p.just(expire(i*5%16, key, 100+i%2))
	}
	p.ask(get(0, "k:0"), get(5, "k:1"), get(0, "k:2"))
	for _, at := range []int{100, 101} {
		var list []*known
		for _, k := range p.m.list {
			if k.expiry == at {
				list = append(list, k)
			}
		}
		slices.SortFunc(list, func(a, b *known) int { return a.use - b.use })
		for _, k := range list {
			want = append(want, fmt.Sprintf("%d:%s", k.db, k.key))
		}
	}
	p.want(spare(0), want, api.OK)
}

// TestKS10Scans: what a scan tells holds every key that was there all the while, and none that was not there in that time.
func TestKS10Scans(t *testing.T) {
	for seed := range 200 {
		m := mix(seed + 1)
		s, _ := New(config(2))
		stay, n := 1+m.below(60), 1+m.below(4)
		for i := range stay {
			s.Put(0, fmt.Sprint("stay", i), text("x"))
		}
		was := map[string]int{}
		met := map[string]int{}
		for _, key := range s.Keys(0) {
			was[key]++
		}
		for cursor := 0; ; {
			var keys []string
			keys, cursor = s.Scan(0, cursor, n)
			for _, key := range keys {
				met[key]++
			}
			if cursor == 0 {
				break
			}
			stir(&m, s)
			for _, key := range s.Keys(0) {
				was[key]++
			}
		}
		for i := range stay {
			if met[fmt.Sprint("stay", i)] == 0 {
				t.Fatalf("seed %d: a key that stays is not met", seed)
			}
		}
		for key := range met {
			if was[key] == 0 {
				t.Fatalf("seed %d: %q is met, which was not there", seed, key)
			}
		}
	}
}

// stir lets keys come and go.
func stir(m *mix, s *Space) {
	way := m.below(4)
	for range m.below(30) {
		key := fmt.Sprint("come", m.below(100))
		switch {
		case way == 0:
			s.Put(0, key, text("y"))
		case way == 1:
			s.Drop(0, key)
		case m.below(2) == 0:
			s.Put(0, key, text("y"))
		default:
			s.Expire(0, key, s.Now()+1)
		}
	}
	s.Advance(m.below(2))
	s.Rename(0, fmt.Sprint("come", m.below(100)), fmt.Sprint("come", m.below(100)))
	s.Swap(0, 1)
	s.Swap(1, 0)
}
