package value

import (
	"fmt"
	"math"
	"slices"
	"strings"
	"testing"

	"cistern/api"
)

var kinds = []int{api.KindString, api.KindList, api.KindSet, api.KindZset, api.KindHash}

// The thresholds of the chapter's examples, the least and the greatest ones.
var (
	example  = api.Thresholds{ListEntries: 2, ListBytes: 8, SetInts: 3, SetEntries: 3, SetBytes: 4, ZsetEntries: 2, ZsetBytes: 4, HashEntries: 2, HashBytes: 4}
	least    = api.Thresholds{ListEntries: 1}
	greatest = api.Thresholds{ListEntries: 4096, ListBytes: 4096, SetInts: api.MaxCount, SetEntries: 4096, SetBytes: 4096, ZsetEntries: 4096, ZsetBytes: 4096, HashEntries: 4096, HashBytes: 4096}
)

// several are thresholds of all sorts: the set's three each the least one, in all orders.
var several = []api.Thresholds{
	least, example, greatest,
	{ListEntries: 3, ListBytes: 2, SetInts: 5, SetEntries: 2, SetBytes: 4, ZsetEntries: 5, ZsetBytes: 2, HashEntries: 5, HashBytes: 2},
	{ListEntries: 1, ListBytes: 9, SetInts: 2, SetEntries: 6, SetBytes: 4, ZsetEntries: 0, ZsetBytes: 9, HashEntries: 0, HashBytes: 9},
	{ListEntries: 9, ListBytes: 0, SetInts: 3, SetEntries: 9, SetBytes: 1, ZsetEntries: 9, ZsetBytes: 0, HashEntries: 9, HashBytes: 0},
	{ListEntries: 4, ListBytes: 3, SetInts: 0, SetEntries: 8, SetBytes: 9, ZsetEntries: 4, ZsetBytes: 3, HashEntries: 4, HashBytes: 3},
	{ListEntries: 5, ListBytes: 5, SetInts: 8, SetEntries: 0, SetBytes: 9, ZsetEntries: 1, ZsetBytes: 1, HashEntries: 1, HashBytes: 1},
}

func made(t testing.TB, kind int, th api.Thresholds) *Value {
	t.Helper()
	v, err := New(kind, th)
	if v == nil || err != api.OK {
		t.Fatalf("New(%d, %v): error %d", kind, th, err)
	}
	return v
}

// call is one that a Value and the model are both asked.
type call struct {
	name string
	do   func(x target) []any
}

// told is what a call answered, as a text: nil and the empty list are the same.
func told(answers []any) string {
	var out []string
	for _, a := range answers {
		switch a := a.(type) {
		case string:
			out = append(out, short(a))
		case []string:
			list := []string{}
			for _, s := range a {
				list = append(list, short(s))
			}
			out = append(out, fmt.Sprint(list))
		case api.Errno:
			out = append(out, fmt.Sprintf("error %d", a))
		case []api.Scored, []api.Field:
			out = append(out, fmt.Sprintf("%q", fmt.Sprintf("%+v", a)))
		default:
			out = append(out, fmt.Sprint(a))
		}
	}
	return strings.Join(out, ", ")
}

func short(s string) string {
	if len(s) > 200 {
		return fmt.Sprintf("%d bytes of %q", len(s), s[:20])
	}
	return fmt.Sprintf("%q", s)
}

// zero tells whether all answers but the error at their end are zero.
func zero(answers []any) bool {
	for _, a := range answers[:len(answers)-1] {
		switch a := a.(type) {
		case string:
			if a != "" {
				return false
			}
		case bool:
			if a {
				return false
			}
		case int:
			if a != 0 {
				return false
			}
		case []string:
			if len(a) != 0 {
				return false
			}
		case []api.Scored:
			if len(a) != 0 {
				return false
			}
		case []api.Field:
			if len(a) != 0 {
				return false
			}
		}
	}
	return true
}

func c(name string, do func(x target) []any) call { return call{name, do} }

func all(x ...any) []any { return x }

func named(format string, args ...any) string { return fmt.Sprintf(format, args...) }

// shorts tells texts, the first ones of many.
func shorts(texts []string) string {
	if n := len(texts); n > 30 {
		return named("%s and %d more", shorts(texts[:5]), n-5)
	}
	return told(all(texts))
}

func setText(s string) call {
	return c("SetText("+short(s)+")", func(x target) []any { return all(x.SetText(s)) })
}

func push(front bool, entries ...string) call {
	return c(named("Push(%v, %s)", front, shorts(entries)), func(x target) []any { return all(x.Push(front, entries...)) })
}

func pop(front bool, n int) call {
	return c(named("Pop(%v, %d)", front, n), func(x target) []any {
		list, err := x.Pop(front, n)
		return all(list, err)
	})
}

func at(i int) call {
	return c(named("At(%d)", i), func(x target) []any {
		s, err := x.At(i)
		return all(s, err)
	})
}

func setAt(i int, entry string) call {
	return c(named("SetAt(%d, %s)", i, short(entry)), func(x target) []any { return all(x.SetAt(i, entry)) })
}

func insert(i int, entry string) call {
	return c(named("Insert(%d, %s)", i, short(entry)), func(x target) []any { return all(x.Insert(i, entry)) })
}

func remove(i, n int) call {
	return c(named("Remove(%d, %d)", i, n), func(x target) []any { return all(x.Remove(i, n)) })
}

func between(i, n int) call {
	return c(named("Range(%d, %d)", i, n), func(x target) []any {
		list, err := x.Range(i, n)
		return all(list, err)
	})
}

func add(members ...string) call {
	return c("Add("+shorts(members)+")", func(x target) []any {
		n, err := x.Add(members...)
		return all(n, err)
	})
}

func drop(members ...string) call {
	return c("Drop("+shorts(members)+")", func(x target) []any {
		n, err := x.Drop(members...)
		return all(n, err)
	})
}

func has(member string) call {
	return c("Has("+short(member)+")", func(x target) []any {
		ok, err := x.Has(member)
		return all(ok, err)
	})
}

func put(fields ...api.Field) call {
	var texts []string
	for _, f := range fields[:min(len(fields), 20)] {
		texts = append(texts, f.Name, f.Value)
	}
	return c("Put("+shorts(texts)+")", func(x target) []any {
		n, err := x.Put(fields...)
		return all(n, err)
	})
}

func erase(names ...string) call {
	return c("Erase("+shorts(names)+")", func(x target) []any {
		n, err := x.Erase(names...)
		return all(n, err)
	})
}

func field(name string) call {
	return c("Field("+short(name)+")", func(x target) []any {
		s, ok, err := x.Field(name)
		return all(s, ok, err)
	})
}

func zadd(members ...api.Scored) call {
	var texts []string
	for _, m := range members[:min(len(members), 20)] {
		texts = append(texts, m.Member, fmt.Sprint(m.Score))
	}
	return c("ZAdd("+shorts(texts)+")", func(x target) []any {
		n, err := x.ZAdd(members...)
		return all(n, err)
	})
}

func zdrop(members ...string) call {
	return c("ZDrop("+shorts(members)+")", func(x target) []any {
		n, err := x.ZDrop(members...)
		return all(n, err)
	})
}

func score(member string) call {
	return c("Score("+short(member)+")", func(x target) []any {
		n, ok, err := x.Score(member)
		return all(n, ok, err)
	})
}

func rank(member string, back bool) call {
	return c(named("Rank(%s, %v)", short(member), back), func(x target) []any {
		n, ok, err := x.Rank(member, back)
		return all(n, ok, err)
	})
}

func byRank(i, n int, back bool) call {
	return c(named("ByRank(%d, %d, %v)", i, n, back), func(x target) []any {
		list, err := x.ByRank(i, n, back)
		return all(list, err)
	})
}

func byScore(lo, hi api.Bound, back bool, skip, most int) call {
	return c(named("ByScore(%+v, %+v, %v, %d, %d)", lo, hi, back, skip, most), func(x target) []any {
		list, err := x.ByScore(lo, hi, back, skip, most)
		return all(list, err)
	})
}

func byLex(lo, hi api.Lex, back bool, skip, most int) call {
	return c(named("ByLex(%+v, %+v, %v, %d, %d)", lo, hi, back, skip, most), func(x target) []any {
		list, err := x.ByLex(lo, hi, back, skip, most)
		return all(list, err)
	})
}

func scan(cursor, n int) call {
	return c(named("Scan(%d, %d)", cursor, n), func(x target) []any {
		list, next, err := x.Scan(cursor, n)
		return all(list, next, err)
	})
}

// wholes are the calls that tell all that a value of any kind holds.
var wholes = []call{
	c("Kind", func(x target) []any { return all(x.Kind(), api.OK) }),
	c("Len", func(x target) []any { return all(x.Len(), api.OK) }),
	c("Size", func(x target) []any { return all(x.Size(), api.OK) }),
	c("Text", func(x target) []any {
		s, err := x.Text()
		return all(s, err)
	}),
	c("Members", func(x target) []any {
		list, err := x.Members()
		return all(list, err)
	}),
	c("Fields", func(x target) []any {
		list, err := x.Fields()
		return all(list, err)
	}),
	between(0, math.MaxInt),
	byRank(0, math.MaxInt, false),
}

// shapes are the calls that tell how it is kept.
var shapes = []call{
	c("Encoding", func(x target) []any { return all(x.Encoding(), api.OK) }),
	c("Raw", func(x target) []any { return all(x.Raw(), api.OK) }),
	scan(0, 0), scan(0, math.MaxInt), scan(1, 1), scan(2, 3), scan(-5, -5), scan(math.MaxInt, 2), scan(math.MinInt, 1),
}

// trial holds a value against the model, call by call.
type trial struct {
	t testing.TB
	v *Value
	m *model
}

func begin(t testing.TB, kind int, th api.Thresholds) *trial {
	t.Helper()
	r := &trial{t, made(t, kind, th), newModel(kind, th)}
	r.look("New")
	return r
}

// ask makes calls of both, and holds the answers against each other.
func (r *trial) ask(what string, calls ...call) {
	r.t.Helper()
	for _, c := range calls {
		got, want := c.do(r.v), c.do(r.m)
		if told(got) != told(want) {
			r.t.Fatalf("%v, behind %s: %s = %s, and should be %s", r.m.th, what, c.name, told(got), told(want))
		}
		if got[len(got)-1] != api.OK && !zero(got) {
			r.t.Fatalf("%v, behind %s: %s = %s, which is not zero beside an error", r.m.th, what, c.name, told(got))
		}
	}
}

// look holds all that both tell of themselves against each other.
func (r *trial) look(what string) {
	r.t.Helper()
	r.ask(what, wholes...)
	r.ask(what, shapes...)
}

// do makes calls, and looks at all behind each of them.
func (r *trial) do(calls ...call) {
	r.t.Helper()
	for _, c := range calls {
		r.ask("the others", c)
		r.look(c.name)
	}
}

// encoded needs an encoding.
func (r *trial) encoded(want string) {
	r.t.Helper()
	if got := r.v.Encoding(); got != want {
		r.t.Fatalf("%v: the encoding of %q is %s, and should be %s", r.m.th, r.v.Raw(), got, want)
	}
}

// mix gives numbers by a rule that looks like none.
type mix struct{ state uint64 }

func (m *mix) below(n int) int {
	m.state ^= m.state << 13
	m.state ^= m.state >> 7
	m.state ^= m.state << 17
	return int(m.state >> 11 % uint64(n))
}

func pick[T any](m *mix, list ...T) T { return list[m.below(len(list))] }

// name gives one of some twenty short texts, numbers' texts among them; few, so that many are met again.
func (m *mix) name() string {
	if m.below(40) == 0 {
		return pick(m, strings.Repeat("x", 64), "-9223372036854775808", "9223372036854775808", "-0", "007", "\x00\xff")
	}
	return pick(m, "", "1", "2", "3", "9", "10", "11", "-1", "-2", "300", "40000", "-70000", "5000000000", "a", "b", "c", "ab", "abc", "abcd", "abcde")
}

// number gives one of some numbers on which one is met again.
func (m *mix) number() int {
	if m.below(20) == 0 {
		return pick(m, math.MinInt, math.MaxInt, api.MaxNumber, -api.MaxNumber)
	}
	return m.below(7) - 2
}

func (m *mix) names(most int) []string {
	list := []string{}
	for range m.below(most + 1) {
		list = append(list, m.name())
	}
	return list
}

func (m *mix) fields(most int) []api.Field {
	list := []api.Field{}
	for range m.below(most + 1) {
		list = append(list, api.Field{Name: m.name(), Value: m.name()})
	}
	return list
}

func (m *mix) score() int {
	if m.below(12) == 0 {
		return pick(m, api.MaxNumber, -api.MaxNumber, api.MaxNumber+1, -api.MaxNumber-1)
	}
	return m.below(5) - 2
}

func (m *mix) scored(most int) []api.Scored {
	list := []api.Scored{}
	for range m.below(most + 1) {
		list = append(list, api.Scored{Member: m.name(), Score: m.score()})
	}
	return list
}

func (m *mix) yes() bool { return m.below(2) == 0 }

func (m *mix) bound() api.Bound {
	return api.Bound{Score: m.score(), Inf: pick(m, 0, 0, 0, -1, 1, -7, 7), Open: m.yes()}
}

func (m *mix) lex() api.Lex {
	return api.Lex{Text: m.name(), Inf: pick(m, 0, 0, 0, -1, 1, -7, 7), Open: m.yes()}
}

// call gives a call that is a kind's own.
func (m *mix) call(kind int) call {
	switch kind {
	case api.KindString:
		return setText(m.name())
	case api.KindList:
		return m.listCall()
	case api.KindSet:
		return pick(m, add(m.names(3)...), add(m.name()), drop(m.names(2)...), has(m.name()))
	case api.KindHash:
		return pick(m, put(m.fields(3)...), put(m.fields(1)...), erase(m.names(2)...), field(m.name()))
	}
	return m.zsetCall()
}

func (m *mix) listCall() call {
	i, n := m.number(), m.number()
	return pick(m, push(m.yes(), m.names(3)...), push(m.yes(), m.name()), insert(max(i, 0), m.name()), insert(i, m.name()),
		setAt(i, m.name()), pop(m.yes(), n), remove(i, n), at(i), between(i, n))
}

func (m *mix) zsetCall() call {
	i, n := m.number(), m.number()
	return pick(m, zadd(m.scored(3)...), zadd(m.scored(1)...), zadd(m.scored(1)...), zdrop(m.names(2)...), score(m.name()),
		rank(m.name(), m.yes()), byRank(i, n, m.yes()), byScore(m.bound(), m.bound(), m.yes(), i, n), byLex(m.lex(), m.lex(), m.yes(), i, n))
}

// TestMixed: calls of all sorts, of its own kind and now and then of another, whatever the thresholds are; a Clone and what Load makes of Raw go on as the value does.
func TestMixed(t *testing.T) {
	for i, th := range several {
		for _, kind := range kinds {
			m := &mix{uint64(1 + i*10 + kind)}
			for range 12 {
				r := begin(t, kind, th)
				for range 60 {
					asked := kind
					if m.below(10) == 0 {
						asked = pick(m, kinds...)
					}
					r.do(m.call(asked))
					if m.below(8) == 0 {
						r.v = r.v.Clone()
						r.look("Clone")
					}
					r.backAgain()
				}
			}
		}
	}
}

// backAgain: P10.15 of what the trial holds now.
func (r *trial) backAgain() {
	r.t.Helper()
	loaded, err := Load(r.v.Kind(), r.v.Encoding(), r.v.Raw(), r.m.th)
	if err != api.OK {
		r.t.Fatalf("%v: Load of Raw, %s %q: error %d", r.m.th, r.v.Encoding(), r.v.Raw(), err)
	}
	if !loaded.Equal(r.v) || !r.v.Equal(loaded) {
		r.t.Fatalf("%v: Load of Raw, %s %q, is not Equal", r.m.th, r.v.Encoding(), r.v.Raw())
	}
	if !slices.Equal(loaded.Raw(), r.v.Raw()) || loaded.Encoding() != r.v.Encoding() {
		r.t.Fatalf("%v: Load of Raw, %s %q, has %s %q", r.m.th, r.v.Encoding(), r.v.Raw(), loaded.Encoding(), loaded.Raw())
	}
	for _, c := range wholes {
		if got, want := told(c.do(loaded)), told(c.do(r.m)); got != want {
			r.t.Fatalf("%v: of Load of Raw %s is %s, and should be %s", r.m.th, c.name, got, want)
		}
	}
}

// TestLeastAndGreatest: P10.14: what is asked of two values is answered alike, but for what tells how they are kept.
func TestLeastAndGreatest(t *testing.T) {
	for _, kind := range kinds {
		m := &mix{uint64(900 + kind)}
		for range 40 {
			a, b := made(t, kind, least), made(t, kind, greatest)
			for range 50 {
				for i, c := range append([]call{m.call(kind)}, wholes...) {
					if x, y := told(c.do(a)), told(c.do(b)); x != y {
						t.Fatalf("kind %d, call %d: %s = %s with the least thresholds, %s with the greatest", kind, i, c.name, x, y)
					}
				}
				if !a.Equal(b) || !b.Equal(a) {
					t.Fatalf("kind %d: %q and %q are not Equal", kind, a.Raw(), b.Raw())
				}
			}
		}
	}
}
