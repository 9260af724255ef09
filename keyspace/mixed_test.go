package keyspace

import (
	"fmt"
	"math"
	"strings"
	"sync"
	"testing"
	"unsafe"

	"cistern/api"
	"cistern/value"
)

// anyCall is a call of any sort on one of few databases and keys.
func anyCall(m *mix) call {
	db := of(m, 0, 0, 0, 1, 1, 2, -1, 3)
	to := of(m, 0, 0, 1, 1, 2, -1, 3)
	key := fmt.Sprint("k", m.below(12))
	other := fmt.Sprint("k", m.below(12))
	switch m.below(24) {
	case 0, 1, 2, 3, 4, 5:
		return put(db, key, of(m, kinds...), m.below(5))
	case 6:
		return put(db, key, api.KindNone, 0)
	case 7, 8:
		return worked(db, key, m.below(9)-4)
	case 9:
		return changed(db, key)
	case 10:
		return drop(db, key)
	case 11, 12, 13:
		return expire(db, key, m.below(60))
	case 14:
		return persist(db, key)
	case 15, 16:
		return rename(db, key, other)
	case 17:
		return move(db, key, to)
	case 18:
		return swap(db, to)
	case 19:
		return of(m, advance(m.below(3)), advance(-1), flush(db), random(m.below(100)), random(-1))
	case 20:
		return of(m, pick(db, m.below(20)-3), scan(db, m.below(64), m.below(9)))
	case 21:
		c := config(3)
		c.Memory, c.Policy = of(m, 0, 1, 300, 900, 2000), m.below(5)
		return adjust(c)
	case 22:
		return spare(m.below(200) - 20)
	}
	return get(db, key)
}

// TestKS9Mixed: calls of all sorts, each held against the model, with all that can be seen behind it; a mark is never used twice.
func TestKS9Mixed(t *testing.T) {
	for seed := range 60 {
		m := mix(seed*77 + 1)
		p := newPair(t, config(3))
		owners := map[int]string{}
		for range 400 {
			p.ask(anyCall(&m))
			for _, k := range p.m.list {
				name := fmt.Sprint(k.db, ":", k.key)
				if at := p.s.Mark(k.db, k.key); owners[at] != "" && owners[at] != name {
					t.Fatalf("the mark %d is that of %s and of %s", at, owners[at], name)
				} else {
					owners[at] = name
				}
				if at, _ := p.s.Expiry(k.db, k.key); at != never && at <= p.s.Now() {
					t.Fatalf("%s is there at %d, with the expiry %d", name, p.s.Now(), at)
				}
			}
		}
	}
}

// TestKS9Marks: the mark of a key changes by each call that changes something of it, and by no other; so do uses.
func TestKS9Marks(t *testing.T) {
	const marked, used = 1, 2
	for _, c := range []struct {
		do   call
		what int
	}{
		{get(0, "a"), used}, {peek(0, "a"), 0}, {put(0, "a", api.KindSet, 2), marked + used}, {put(0, "a", api.KindSet, 0), 0}, {put(0, "a", api.KindNone, 0), 0},
		{changed(0, "a"), marked}, {changed(0, "zz"), 0}, {expiry(0, "a"), 0}, {expire(0, "a", 70), marked}, {expire(0, "a", 50), marked}, {persist(0, "a"), marked}, {persist(0, "b"), 0},
		{rename(0, "a", "a"), 0}, {rename(0, "b", "a"), marked + used}, {rename(0, "zz", "a"), 0}, {rename(0, "b", "c"), 0}, {move(0, "a", 0), 0}, {move(0, "a", 1), 0},
		{swap(0, 1), marked}, {swap(0, 0), 0}, {swap(1, 2), 0}, {swap(0, 9), 0}, {flush(1), 0}, {flush(9), 0}, {length(0), 0}, {keys(0), 0}, {scan(0, 0, 9), 0}, {pick(0, 0), 0},
		{mark(0, "a"), 0}, {idle(0, "a"), 0}, {random(5), 0}, {advance(1), 0}, {advance(-1), 0}, {spare(0), 0}, {adjust(config(3)), 0}, {adjust(config(4)), 0}, {drop(1, "a"), 0}, {drop(0, "zz"), 0},
	} {
		p := newPair(t, config(3))
		p.ask(put(1, "a", api.KindString, 1), put(0, "a", api.KindString, 1), put(0, "b", api.KindString, 1), expire(0, "a", 50))
		before, idle := p.s.Mark(0, "a"), p.s.Idle(0, "a")
		p.ask(c.do)
		if got := p.s.Mark(0, "a") != before; got != (c.what&marked != 0) {
			t.Errorf("%s: whether the mark changed: %v", c.do.name, got)
		}
		if got := p.s.Idle(0, "a") < idle; got != (c.what&used != 0) {
			t.Errorf("%s: whether it was used: %v", c.do.name, got)
		}
	}
}

// TestNoDatabase: each call with a database that is none has nothing to tell, and changes nothing.
func TestNoDatabase(t *testing.T) {
	p := newPair(t, config(2))
	p.ask(put(0, "a", api.KindString, 1), put(1, "b", api.KindString, 1), expire(0, "a", 9))
	for _, db := range []int{-1, -2, math.MinInt, 2, 3, api.MaxSpaces, math.MaxInt} {
		for _, key := range []string{"a", "b", "", "zz"} {
			p.want(get(db, key), (*value.Value)(nil), false)
			p.want(peek(db, key), (*value.Value)(nil), false)
			p.want(put(db, key, api.KindString, 1), api.ErrArg)
			p.want(changed(db, key), false)
			p.want(drop(db, key), false)
			p.want(expiry(db, key), 0, false)
			p.want(expire(db, key, 5), false)
			p.want(expire(db, key, -5), false)
			p.want(persist(db, key), false)
			p.want(rename(db, key, "a"), api.ErrArg)
			p.want(rename(db, key, key), api.ErrArg)
			p.want(move(db, key, 0), api.ErrArg)
			p.want(move(0, key, db), api.ErrArg)
			p.want(mark(db, key), 0)
			p.want(idle(db, key), -1)
		}
		p.want(swap(db, 0), api.ErrArg)
		p.want(swap(1, db), api.ErrArg)
		p.want(keys(db), []string{})
		p.want(scan(db, 0, 9), []string{}, 0)
		p.want(pick(db, 0), "", false)
		if db > 0 {
			p.want(flush(db), 0)
			p.want(length(db), 0)
		}
	}
	p.want(length(-1), 2)
}

// TestNoKey: each call with a key that is not there.
func TestNoKey(t *testing.T) {
	p := newPair(t, config(2))
	p.ask(put(0, "a", api.KindString, 1), put(1, "b", api.KindString, 1), put(0, "gone", api.KindList, 1), drop(0, "gone"))
	for _, key := range []string{"b", "", "gone", strings.Repeat("k", api.MaxKey), strings.Repeat("k", api.MaxKey+1)} {
		p.want(get(0, key), (*value.Value)(nil), false)
		p.want(peek(0, key), (*value.Value)(nil), false)
		p.want(changed(0, key), false)
		p.want(drop(0, key), false)
		p.want(expiry(0, key), 0, false)
		p.want(expire(0, key, 5), false)
		p.want(persist(0, key), false)
		p.want(rename(0, key, "a"), api.ErrNone)
		p.want(move(0, key, 1), api.ErrNone)
		p.want(mark(0, key), 0)
		p.want(idle(0, key), -1)
	}
}

// apart tells whether two texts share no memory.
func apart(a, b string) bool {
	if a == "" || b == "" {
		return true
	}
	x, y := uintptr(unsafe.Pointer(unsafe.StringData(a))), uintptr(unsafe.Pointer(unsafe.StringData(b)))
	return x+uintptr(len(a)) <= y || y+uintptr(len(b)) <= x
}

// TestP2Lists: lists that are told are their caller's; no answer shares memory with another one, or with what is kept.
func TestP2Lists(t *testing.T) {
	p := filled(t)
	for range 3 {
		lists := [][]string{p.s.Keys(2), p.s.Keys(2)}
		for range 2 {
			list, _ := p.s.Scan(2, 0, 1000)
			lists = append(lists, list)
			key, _ := p.s.Pick(2, 3)
			lists = append(lists, []string{key})
		}
		for i, a := range lists {
			for _, b := range lists[:i] {
				for _, x := range a {
					for _, y := range b {
						if !apart(x, y) {
							t.Fatalf("two answers share %q", x)
						}
					}
				}
			}
			for key := range p.s.rooms[2].held {
				for _, x := range a {
					if !apart(x, key) {
						t.Fatalf("an answer shares %q with the space", x)
					}
				}
			}
		}
		for _, a := range lists {
			a = a[:cap(a)]
			for i := range a {
				a[i] = "spoilt"
			}
		}
		p.look()
	}
}

// TestP2Spare: the names are their caller's as well.
func TestP2Spare(t *testing.T) {
	p := memory(t, api.PolicyOldest, 300)
	p.m.Spare(0)
	names, _ := p.s.Spare(0)
	for i := range names[:cap(names)] {
		names[:cap(names)][i] = "spoilt"
	}
	p.look()
	p.ask(spare(1), spare(200))
}

// TestP2Keys: a key's text that is handed in is not kept, but its bytes.
func TestP2Keys(t *testing.T) {
	room := []byte("abcdef")
	lent := func(s string) string {
		copy(room, s)
		return unsafe.String(&room[0], len(s))
	}
	s, _ := New(config(2))
	s.Put(0, lent("a1"), text("x"))
	s.Put(0, lent("a2"), text("x"))
	s.Put(0, lent("a1"), text("x"))
	s.Expire(0, lent("a1"), 5)
	s.Rename(0, lent("a2"), "b2")
	s.Rename(0, "b2", lent("c2"))
	s.Put(0, "dd", text("x"))
	s.Move(0, lent("dd"), 1)
	s.Expire(1, lent("dd"), 6)
	lent("zzzzzz")
	if got := told(s.Keys(0), s.Keys(1)); got != `["a1" "c2"], ["dd"]` {
		t.Errorf("the keys are %s", got)
	}
	if at, ok := s.Expiry(0, "a1"); at != 5 || !ok || s.Mark(0, "c2") == 0 {
		t.Errorf("a key that was lent is lost: %d, %v", at, ok)
	}
	if n, _ := s.Advance(6); n != 2 || s.Len(-1) != 1 {
		t.Errorf("Advance lets %d go", n)
	}
}

// TestP2Alone: spaces that work at once do not see each other; the same calls, the same answers.
func TestP2Alone(t *testing.T) {
	answers := make([]string, 8)
	var all sync.WaitGroup
	for i := range answers {
		all.Go(func() {
			m := mix(99)
			s, _ := New(config(3))
			var out []string
			for range 2000 {
				c := anyCall(&m)
				out = append(out, c.name+" = "+c.do(s))
				if m.below(50) == 0 {
					s = s.Clone()
				}
			}
			answers[i] = strings.Join(out, "\n")
		})
	}
	all.Wait()
	for _, a := range answers[1:] {
		if a != answers[0] {
			t.Fatalf("the same calls have other answers")
		}
	}
}

// TestP1Total: calls with arguments of any kind end without a panic.
func TestP1Total(t *testing.T) {
	numbers := []int{math.MinInt, -1, 0, 1, 2, api.MaxNumber, math.MaxInt}
	texts := []string{"", "a", "b", strings.Repeat("k", api.MaxKey+1)}
	p := newPair(t, config(2))
	for _, n := range numbers {
		p.ask(random(n), length(n), keys(n), spare(n))
		for _, o := range numbers {
			p.ask(swap(n, o), pick(n, o), scan(n, o, n), scan(n, n, o), scan(0, n, o))
			for _, key := range texts {
				p.ask(put(0, "a", api.KindString, 1), put(n, key, api.KindList, 1), expire(n, key, o), move(n, key, o))
			}
		}
		for _, key := range texts {
			for _, to := range texts {
				p.ask(put(0, "a", api.KindString, 1), rename(n, key, to))
			}
			p.ask(get(n, key), peek(n, key), changed(n, key), expiry(n, key), persist(n, key), mark(n, key), idle(n, key), drop(n, key))
		}
		p.ask(flush(n), advance(n))
	}
}
