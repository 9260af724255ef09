package skiplist

import (
	"fmt"
	"math"
	"slices"
	"strings"
	"testing"

	"cistern/api"
	"cistern/dict"
)

// model is a Board by the chapter's words alone: a plain list, sorted anew ahead of each answer.
type model[V any] struct {
	seed int
	list []Entry[V]
}

// ordered is the list in the order, or turned round.
func (m *model[V]) ordered(back bool) []Entry[V] {
	list := slices.Clone(m.list)
	slices.SortFunc(list, func(a, b Entry[V]) int {
		if a.Score < b.Score || a.Score == b.Score && a.Member < b.Member {
			return -1
		}
		return 1
	})
	if back {
		slices.Reverse(list)
	}
	return list
}

func (m *model[V]) index(member string) int {
	return slices.IndexFunc(m.list, func(e Entry[V]) bool { return e.Member == member })
}

func (m *model[V]) Set(member string, score int, v V) bool {
	if i := m.index(member); i >= 0 {
		m.list[i] = Entry[V]{member, score, v}
		return false
	}
	m.list = append(m.list, Entry[V]{member, score, v})
	return true
}

func (m *model[V]) Drop(member string) bool {
	i := m.index(member)
	if i >= 0 {
		m.list = slices.Delete(m.list, i, i+1)
	}
	return i >= 0
}

func (m *model[V]) Get(member string) (Entry[V], bool) {
	if i := m.index(member); i >= 0 {
		return m.list[i], true
	}
	return Entry[V]{}, false
}

func (m *model[V]) Rank(member string, back bool) (int, bool) {
	for i, e := range m.ordered(back) {
		if e.Member == member {
			return i, true
		}
	}
	return 0, false
}

func (m *model[V]) At(i int, back bool) (Entry[V], bool) {
	for rank, e := range m.ordered(back) {
		if rank == i {
			return e, true
		}
	}
	return Entry[V]{}, false
}

func (m *model[V]) Slice(from, to int, back bool) []Entry[V] {
	var list []Entry[V]
	for rank, e := range m.ordered(back) {
		if from <= rank && rank <= to {
			list = append(list, e)
		}
	}
	return list
}

func scoreIn(s int, lo, hi api.Bound) bool {
	low := lo.Inf < 0 || lo.Inf == 0 && s > lo.Score || lo.Inf == 0 && s == lo.Score && !lo.Open
	high := hi.Inf > 0 || hi.Inf == 0 && s < hi.Score || hi.Inf == 0 && s == hi.Score && !hi.Open
	return low && high
}

func memberIn(s string, lo, hi api.Lex) bool {
	low := lo.Inf < 0 || lo.Inf == 0 && strings.Compare(s, lo.Text) > 0 || lo.Inf == 0 && s == lo.Text && !lo.Open
	high := hi.Inf > 0 || hi.Inf == 0 && strings.Compare(s, hi.Text) < 0 || hi.Inf == 0 && s == hi.Text && !hi.Open
	return low && high
}

// some is what skip and most leave of those for which in holds.
func (m *model[V]) some(in func(Entry[V]) bool, back bool, skip, most int) []Entry[V] {
	var list []Entry[V]
	passed := 0
	for _, e := range m.ordered(back) {
		if !in(e) {
			continue
		}
		passed++
		if passed > skip && (most < 0 || len(list) < most) {
			list = append(list, e)
		}
	}
	return list
}

func (m *model[V]) ByScore(lo, hi api.Bound, back bool, skip, most int) []Entry[V] {
	return m.some(func(e Entry[V]) bool { return scoreIn(e.Score, lo, hi) }, back, skip, most)
}

func (m *model[V]) ByLex(lo, hi api.Lex, back bool, skip, most int) []Entry[V] {
	return m.some(func(e Entry[V]) bool { return memberIn(e.Member, lo, hi) }, back, skip, most)
}

// heightByWords divides by 4 as long as it can.
func heightByWords(hash int) int {
	if hash == 0 {
		return 24
	}
	high := 1
	for hash%4 == 0 {
		hash /= 4
		high++
	}
	return min(high, 24)
}

func (m *model[V]) Tall() []int {
	var tall []int
	for _, e := range m.list {
		high := heightByWords(dict.Hash(m.seed, e.Member))
		for len(tall) < high {
			tall = append(tall, 0)
		}
		tall[high-1]++
	}
	return tall
}

// mix is a row of numbers that is the same at each run.
type mix uint64

func (m *mix) below(n int) int {
	x := uint64(*m)
	x ^= x << 13
	x ^= x >> 7
	x ^= x << 17
	*m = mix(x)
	return int(x >> 11 % uint64(n))
}

// sound fails if the towers are not linked as they must be.
func sound[V any](t *testing.T, b *Board[V]) {
	t.Helper()
	places := map[*tower[V]]int{b.head: 0}
	highest := 0
	last := b.head
	if len(b.head.links) > 0 {
		for at := b.head.links[0].next; at != nil; at = at.links[0].next {
			if at.prev != last || last != b.head && !last.isAhead(at) {
				t.Fatalf("%v stands behind %v", at.entry, last.entry)
			}
			if b.towers[at.entry.Member] != at {
				t.Fatalf("the map does not lead to %v", at.entry)
			}
			places[at] = len(places)
			highest = max(highest, len(at.links))
			last = at
		}
	}
	if len(b.towers) != b.size || len(places) != b.size+1 || len(b.head.links) != highest {
		t.Fatalf("%d members, %d towers, %d told; the head is %d high, the highest tower %d", len(b.towers), len(places)-1, b.size, len(b.head.links), highest)
	}
	for level := range b.head.links {
		met := 0
		for at := b.head; at != nil; at = at.links[level].next {
			end, ok := places[at.links[level].next]
			if !ok {
				end = b.size + 1
			}
			if at.links[level].over != end-places[at] {
				t.Fatalf("level %d: the link of %v leads over %d places, not %d", level, at.entry, at.links[level].over, end-places[at])
			}
			met++
		}
		for at := range places {
			if len(at.links) > level {
				met--
			}
		}
		if met != 0 {
			t.Fatalf("level %d misses %d towers", level, -met)
		}
	}
}

// pair is a Board beside its model, both of which are asked alike.
type pair[V any] struct {
	t    *testing.T
	b    *Board[V]
	m    *model[V]
	same func(V, V) bool
}

func newPair[V any](t *testing.T, seed int, same func(V, V) bool) *pair[V] {
	return &pair[V]{t, New[V](seed), &model[V]{seed: seed}, same}
}

func sameInts(a, b int) bool { return a == b }

func (p *pair[V]) set(member string, score int, v V) {
	p.t.Helper()
	got, want := p.b.Set(member, score, v), p.m.Set(member, score, v)
	p.did(fmt.Sprintf("Set(%.20q, %d)", member, score), got, want)
}

func (p *pair[V]) drop(member string) {
	p.t.Helper()
	p.did(fmt.Sprintf("Drop(%.20q)", member), p.b.Drop(member), p.m.Drop(member))
}

func (p *pair[V]) did(what string, got, want bool) {
	p.t.Helper()
	sound(p.t, p.b)
	if got != want || p.b.Len() != len(p.m.list) {
		p.t.Fatalf("%s = %v, %d members; want %v, %d", what, got, p.b.Len(), want, len(p.m.list))
	}
	if got, want := p.b.Tall(), p.m.Tall(); !slices.Equal(got, want) {
		p.t.Fatalf("%s: Tall = %v; want %v", what, got, want)
	}
}

func (p *pair[V]) equal(a, b Entry[V]) bool {
	return a.Member == b.Member && a.Score == b.Score && p.same(a.Value, b.Value)
}

func (p *pair[V]) list(got, want []Entry[V], what string, arguments ...any) {
	p.t.Helper()
	if !slices.EqualFunc(got, want, p.equal) {
		p.t.Fatalf("%s%+v = %v; want %v; the Board is %v", what, arguments, got, want, p.m.ordered(false))
	}
}

// one holds the answers by member against each other.
func (p *pair[V]) one(member string) {
	p.t.Helper()
	got, is := p.b.Get(member)
	if want, was := p.m.Get(member); is != was || !p.equal(got, want) {
		p.t.Fatalf("Get(%q) = %v, %v; want %v, %v", member, got, is, want, was)
	}
	for _, back := range []bool{false, true} {
		rank, is := p.b.Rank(member, back)
		if want, was := p.m.Rank(member, back); rank != want || is != was {
			p.t.Fatalf("Rank(%q, %v) = %d, %v; want %d, %v", member, back, rank, is, want, was)
		}
	}
}

// at holds the entries of a rank against each other.
func (p *pair[V]) at(i int, back bool) {
	p.t.Helper()
	got, is := p.b.At(i, back)
	if want, was := p.m.At(i, back); is != was || !p.equal(got, want) {
		p.t.Fatalf("At(%d, %v) = %v, %v; want %v, %v", i, back, got, is, want, was)
	}
}

// look holds all answers by member and by rank against each other.
func (p *pair[V]) look(more ...string) {
	p.t.Helper()
	for _, e := range p.m.list {
		more = append(more, e.Member)
	}
	for _, member := range more {
		p.one(member)
	}
	n := len(p.m.list)
	for _, back := range []bool{false, true} {
		for i := -2; i < n+2; i++ {
			p.at(i, back)
		}
		for _, i := range []int{math.MinInt, math.MinInt + 1, math.MaxInt - 1, math.MaxInt} {
			p.at(i, back)
		}
		p.slice(0, n-1, back)
	}
}

func (p *pair[V]) slice(from, to int, back bool) {
	p.t.Helper()
	p.list(p.b.Slice(from, to, back), p.m.Slice(from, to, back), "Slice", from, to, back)
}

func (p *pair[V]) byScore(lo, hi api.Bound, back bool, skip, most int) {
	p.t.Helper()
	p.list(p.b.ByScore(lo, hi, back, skip, most), p.m.ByScore(lo, hi, back, skip, most), "ByScore", lo, hi, back, skip, most)
}

func (p *pair[V]) byLex(lo, hi api.Lex, back bool, skip, most int) {
	p.t.Helper()
	p.list(p.b.ByLex(lo, hi, back, skip, most), p.m.ByLex(lo, hi, back, skip, most), "ByLex", lo, hi, back, skip, most)
}

func (p *pair[V]) counts(lo, hi api.Bound) {
	p.t.Helper()
	if got, want := p.b.Count(lo, hi), len(p.m.ByScore(lo, hi, false, 0, -1)); got != want {
		p.t.Fatalf("Count(%+v, %+v) = %d; want %d", lo, hi, got, want)
	}
}

func (p *pair[V]) countsLex(lo, hi api.Lex) {
	p.t.Helper()
	if got, want := p.b.CountLex(lo, hi), len(p.m.ByLex(lo, hi, false, 0, -1)); got != want {
		p.t.Fatalf("CountLex(%+v, %+v) = %d; want %d", lo, hi, got, want)
	}
}

// bounds is each kind of end at each of the scores.
func bounds(scores ...int) []api.Bound {
	var ends []api.Bound
	for _, inf := range []int{0, -1, 1, math.MinInt, math.MaxInt, -3, 7} {
		for _, open := range []bool{false, true} {
			for _, score := range scores {
				if inf == 0 || score == scores[0] {
					ends = append(ends, api.Bound{Score: score, Inf: inf, Open: open})
				}
			}
		}
	}
	return ends
}

// lexes is each kind of end at each of the texts.
func lexes(texts ...string) []api.Lex {
	var ends []api.Lex
	for _, inf := range []int{0, -1, 1, math.MinInt, math.MaxInt, -3, 7} {
		for _, open := range []bool{false, true} {
			for _, text := range texts {
				if inf == 0 || text == texts[0] {
					ends = append(ends, api.Lex{Text: text, Inf: inf, Open: open})
				}
			}
		}
	}
	return ends
}

// numbers is what skip and most are tried with on n entries.
func numbers(n int) []int {
	list := []int{math.MinInt, -2, -1, 0, 1, 2, n - 1, n, n + 1, math.MaxInt - 1, math.MaxInt}
	slices.Sort(list)
	return slices.Compact(list)
}

// ranges holds all ranges of scores and members with these ends against each other, with each skip and most.
func (p *pair[V]) ranges(scores []int, texts []string) {
	p.t.Helper()
	some := numbers(len(p.m.list))
	for _, back := range []bool{false, true} {
		for _, skip := range some {
			for _, most := range some {
				for _, lo := range bounds(scores...) {
					for _, hi := range bounds(scores...) {
						p.byScore(lo, hi, back, skip, most)
					}
				}
				for _, lo := range lexes(texts...) {
					for _, hi := range lexes(texts...) {
						p.byLex(lo, hi, back, skip, most)
					}
				}
			}
		}
	}
	p.allCounts(scores, texts)
}

func (p *pair[V]) allCounts(scores []int, texts []string) {
	p.t.Helper()
	for _, lo := range bounds(scores...) {
		for _, hi := range bounds(scores...) {
			p.counts(lo, hi)
		}
	}
	for _, lo := range lexes(texts...) {
		for _, hi := range lexes(texts...) {
			p.countsLex(lo, hi)
		}
	}
}
