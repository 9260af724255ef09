package simfs

import (
	"fmt"
	"slices"
	"strings"
	"sync"
	"testing"

	"cistern/api"
)

// anyCall is a call of any sort on few names; what is appended differs from call to call.
func anyCall(m *mix) call {
	name := of(m, "a", "a", "b", "c", "d.1", "e", "none", "", "..", "a/b")
	other := of(m, "a", "b", "b", "c", "d.1", "e", "f", ".", "a b")
	data := strings.Repeat(string(rune('a'+m.below(26))), m.below(7))
	var picks []int
	for range m.below(12) {
		picks = append(picks, of(m, -1, 0, 1, 2, 3, m.below(10), m.below(1000)))
	}
	switch m.below(32) {
	case 0, 1, 2, 3, 4:
		return create(name)
	case 5, 6, 7, 8, 9, 10, 11:
		return lay(name, data)
	case 12, 13, 14:
		return syncFile(name)
	case 15, 16, 17, 18:
		return rename(name, other)
	case 19, 20, 21:
		return syncDir()
	case 22, 23:
		return remove(name)
	case 24, 25:
		return fail(of(m, 0, 1, 1, 2, 3, 9), of(m, -1, 0, 1, 2, 3, 9))
	case 26:
		return crash(of(m, -1, 1, 2, 3, 5, 9, 20), picks...)
	case 27:
		return of(m, crash(0, picks...), start(), start(), read(name), list())
	}
	return of(m, start(), start(), lay("a", data), create("a"), create("b"))
}

// TestP207Mixed: calls of all sorts, each held against the model, with all that can be seen behind it, and P20.7's sentences of crashes with many picks; clones go on as they would.
func TestP207Mixed(t *testing.T) {
	for seed := range 150 {
		m := mix(seed*77 + 1)
		p := newPair(t)
		for range 300 {
			p.ask(anyCall(&m))
			if p.f.Up() && m.below(4) == 0 {
				crashed(p)
				crashed(p, m.below(20), m.below(20), m.below(20), m.below(20), m.below(20), m.below(20), m.below(20), m.below(20))
			}
			if m.below(10) == 0 {
				p = p.clone()
				p.look()
			}
		}
	}
}

// TestP207Settled: behind Sync of all files and SyncDir a crash loses nothing, whatever is picked.
func TestP207Settled(t *testing.T) {
	for seed := range 60 {
		m := mix(seed*91 + 5)
		p := newPair(t)
		for range 60 {
			p.ask(anyCall(&m))
		}
		p.ask(start())
		p.ok(crash(0, m.below(50), m.below(50), m.below(50), m.below(50)), start())
		p.ok(create("a"), lay("a", "x"), create("b"), rename("b", "c"), lay("c", "y"))
		for _, x := range p.m.Now() {
			p.ok(syncFile(x.Name))
		}
		p.ok(syncDir())
		now := words(p.f.Now())
		for _, picks := range [][]int{nil, {0}, {1}, {1, 1, 1, 1, 1}, {7, 7, 7, 7, 7, 7, 7, 7}} {
			q := p.clone()
			q.ok(crash(0, picks...))
			q.holds(now, now)
			q.ok(start())
			q.holds(now, now)
		}
	}
}

// TestP208Clone: a clone goes on as the first would, with all that is planned; what is done to either is not seen by the other.
func TestP208Clone(t *testing.T) {
	for seed := range 150 {
		m := mix(seed*53 + 3)
		p := newPair(t)
		for range m.below(60) {
			p.ask(anyCall(&m))
		}
		for _, c := range []call{start(), create("a"), lay("a", "abc"), fail(3, 1), fail(5, 2), crash(9, 2, 1, 1, 1, 1, 1)} {
			p.ask(c)
		}
		q := p.clone()
		q.look()
		again := m
		for range 40 {
			p.ask(anyCall(&m))
		}
		q.look()
		r := q.clone()
		for range 40 {
			r.ask(anyCall(&again))
		}
		if p.f.Steps() != r.f.Steps() || p.f.Up() != r.f.Up() || !slices.Equal(p.f.Now(), r.f.Now()) || !slices.Equal(p.f.Safe(), r.f.Safe()) {
			t.Fatalf("seed %d: the clone did not go on as the first", seed)
		}
		q.look()
		for range 40 {
			q.ask(anyCall(&m))
			p.look()
			r.look()
			p.ask(anyCall(&m))
			q.look()
		}
	}
}

// TestP208Apart: files, names, changes and plans of a clone and of the first, one by one.
func TestP208Apart(t *testing.T) {
	p := newPair(t, create("a"), lay("a", "one"), syncFile("a"), syncDir(), rename("a", "b"), lay("b", "two"), create("c"), remove("c"))
	q := p.clone()
	if q.f.now["b"] != q.f.safe["a"] || q.f.now["b"] == p.f.now["b"] {
		t.Error("the clone's file is not one of its own, or not the same one in both directories")
	}
	q.ok(lay("b", "X"), syncFile("b"))
	p.holds([]string{"b", "onetwo"}, []string{"a", "one"})
	q.holds([]string{"b", "onetwoX"}, []string{"a", "onetwoX"})
	p.ok(lay("b", "Y"))
	q.ok(lay("b", "Z"))
	p.holds([]string{"b", "onetwoY"}, []string{"a", "one"})
	q.holds([]string{"b", "onetwoXZ"}, []string{"a", "onetwoX"})
	p.ok(syncDir())
	q.holds([]string{"b", "onetwoXZ"}, []string{"a", "onetwoX"})
	r := q.clone()
	q.ok(fail(1, 0), crash(2, 2))
	r.ok(lay("b", "!"), lay("b", "!"), lay("b", "!"))
	s := q.clone()
	for _, x := range []*pair{q, s} {
		x.want(api.ErrIO, lay("b", "?"))
		x.want(api.ErrCrash, lay("b", "?"))
		x.isUp(false)
		x.holds([]string{"b", "onetwoX", "c", ""}, []string{"b", "onetwoX", "c", ""})
	}
	r.isUp(true)
	r.ok(crash(3, 1), fail(1, 1))
	s = r.clone()
	s.ok(crash(5), fail(1, 2), fail(2, 0))
	r.want(api.ErrIO, lay("b", "xyz"))
	r.ok(lay("b", "xyz"))
	r.want(api.ErrCrash, lay("b", "xyz"))
	s.want(api.ErrIO, lay("b", "xyz"), lay("b", "xyz"))
	s.ok(lay("b", "xyz"), lay("b", "xyz"))
	s.want(api.ErrCrash, lay("b", "xyz"))
}

// TestP208InTurns: a clone and the first go on in turns with appended bytes, changes and plans of their own, behind so many of each that there is spare room for more, or none.
func TestP208InTurns(t *testing.T) {
	for n := range 20 {
		p := newPair(t, create("a"), syncDir())
		for i := range n {
			p.ok(lay("a", named("%d,", i)), rename("a", "b"), rename("b", "a"), fail(100+i, 1))
		}
		q := p.clone()
		r := q.clone()
		for i := range 9 {
			for who, x := range []*pair{p, q, r} {
				x.ok(lay("a", named("%c", 'p'+who)), create(named("%c%d", 'p'+who, i)), fail(20+who-i, who))
			}
			for _, x := range []*pair{p, q, r} {
				x.look()
			}
		}
		for who, x := range []*pair{p, q, r} {
			for picked := range 9 {
				y := x.clone()
				y.ok(crash(0, 2*n+picked, 3*n+picked), start())
			}
			for range 120 {
				x.ask(lay("a", named("%c%d", 'p'+who, who)))
			}
		}
	}
}

// TestP2OwnMemory: lists and pairs that are told are their caller's, with their spare room, from call to call.
func TestP2OwnMemory(t *testing.T) {
	p := newPair(t, create("a"), lay("a", "xy"), syncFile("a"), create("b"), syncDir(), create("c"))
	for range 3 {
		names, _ := p.f.List()
		now, safe := p.f.Now(), p.f.Safe()
		for i := range names[:cap(names)] {
			names[:cap(names)][i] = "spoilt"
		}
		for _, pairs := range [][]api.Pair{now, safe} {
			for i := range pairs[:cap(pairs)] {
				pairs[:cap(pairs)][i] = api.Pair{Name: "spoilt", Value: "spoilt"}
			}
		}
		p.look()
		p.ok(lay("a", "z"), rename("c", "d"), rename("d", "c"))
	}
	now := p.f.Now()
	kept := slices.Clone(now)
	p.ok(lay("a", "more"), remove("b"), create("e"), crash(0))
	if !slices.Equal(now, kept) {
		t.Errorf("what was told is %v now", now)
	}
}

// TestP2Alone: file systems of several goroutines, clones of one of them, each go on as if they were alone.
func TestP2Alone(t *testing.T) {
	first := newPair(t, create("a"), lay("a", "abc"), syncDir(), rename("a", "b"), fail(4, 1), crash(30, 1, 2, 3))
	pairs := []*pair{first}
	for range 7 {
		pairs = append(pairs, first.clone())
	}
	faults := make([]string, len(pairs))
	var group sync.WaitGroup
	for i, p := range pairs {
		group.Go(func() {
			m := mix(i*7 + 1)
			for range 400 {
				c := anyCall(&m)
				if got, want := c.do(p.f), c.do(p.m); got != want {
					faults[i] = fmt.Sprintf("%s = %v; want %v", c.name, got, want)
					return
				}
			}
		})
	}
	group.Wait()
	for i, p := range pairs {
		if faults[i] != "" {
			t.Errorf("%d: %s", i, faults[i])
		}
		p.look()
	}
}
