package keyspace

import (
	"fmt"
	"math"
	"strings"
	"testing"

	"cistern/api"
	"cistern/value"
)

// target is what both a Space and the model are asked.
type target interface {
	Config() api.Config
	Adjust(c api.Config) api.Errno
	Now() int
	Advance(n int) (int, api.Errno)
	Get(db int, key string) (*value.Value, bool)
	Peek(db int, key string) (*value.Value, bool)
	Put(db int, key string, v *value.Value) api.Errno
	Changed(db int, key string) bool
	Drop(db int, key string) bool
	Expiry(db int, key string) (int, bool)
	Expire(db int, key string, at int) bool
	Persist(db int, key string) bool
	Rename(db int, key, to string) api.Errno
	Move(db int, key string, to int) api.Errno
	Swap(a, b int) api.Errno
	Flush(db int) int
	Len(db int) int
	Keys(db int) []string
	Scan(db, cursor, n int) ([]string, int)
	Pick(db, n int) (string, bool)
	Mark(db int, key string) int
	Idle(db int, key string) int
	Random(n int) int
	Used() int
	Spare(need int) ([]string, api.Errno)
}

var (
	small = api.Thresholds{ListEntries: 2, ListBytes: 8, SetInts: 3, SetEntries: 3, SetBytes: 4, ZsetEntries: 2, ZsetBytes: 4, HashEntries: 2, HashBytes: 4}
	kinds = []int{api.KindString, api.KindList, api.KindSet, api.KindZset, api.KindHash}
)

// hold makes a value of a kind with so many elements (a text: of so many bytes).
func hold(kind, n int) *value.Value {
	v, err := value.New(kind, small)
	if err != api.OK {
		panic(err)
	}
	work(v, n)
	return v
}

func text(s string) *value.Value {
	v := hold(api.KindString, 0)
	v.SetText(s)
	return v
}

// work lets a value have so many elements more, or less, if n is below 0.
func work(v *value.Value, n int) {
	for i := range max(n, -n) {
		name := fmt.Sprint(v.Len() + i)
		last := fmt.Sprint(v.Len() - 1)
		switch v.Kind() {
		case api.KindString:
			s, _ := v.Text()
			if n > 0 {
				v.SetText(s + "x")
			} else if s != "" {
				v.SetText(s[1:])
			}
		case api.KindList:
			if n > 0 {
				v.Push(false, name)
			} else {
				v.Pop(true, 1)
			}
		case api.KindSet:
			if n > 0 {
				v.Add(fmt.Sprint(v.Len()))
			} else {
				v.Drop(last)
			}
		case api.KindZset:
			if n > 0 {
				v.ZAdd(api.Scored{Member: fmt.Sprint(v.Len()), Score: i})
			} else {
				v.ZDrop(last)
			}
		case api.KindHash:
			if n > 0 {
				v.Put(api.Field{Name: fmt.Sprint(v.Len()), Value: name})
			} else {
				v.Erase(last)
			}
		}
	}
}

func seen(v *value.Value) string {
	if v == nil {
		return "no value"
	}
	raw := fmt.Sprintf("%q", v.Raw())
	if len(raw) > 300 {
		raw = raw[:300]
	}
	return fmt.Sprintf("%d %s of %d %d %s", v.Kind(), v.Encoding(), v.Len(), v.Size(), raw)
}

func short(s string) string {
	if len(s) > 100 {
		return fmt.Sprintf("%d bytes of %q", len(s), s[:10])
	}
	return fmt.Sprintf("%q", s)
}

// told is what a call answered, as a text: nil and the empty list are the same.
func told(answers ...any) string {
	var out []string
	for _, a := range answers {
		switch a := a.(type) {
		case string:
			out = append(out, short(a))
		case []string:
			list := []string{}
			for _, s := range a {
				list = append(list, short(s))
			}
			out = append(out, fmt.Sprint(list))
		case *value.Value:
			out = append(out, seen(a))
		case api.Errno:
			out = append(out, fmt.Sprintf("error %d", a))
		default:
			out = append(out, fmt.Sprintf("%+v", a))
		}
	}
	return strings.Join(out, ", ")
}

// call is one that a Space and the model are both asked; it tells what was answered.
type call struct {
	name string
	do   func(x target) string
}

func named(format string, args ...any) string { return fmt.Sprintf(format, args...) }

func adjust(c api.Config) call {
	return call{named("Adjust(%+v)", c), func(x target) string { return told(x.Adjust(c)) }}
}

func advance(n int) call {
	return call{named("Advance(%d)", n), func(x target) string {
		gone, err := x.Advance(n)
		return told(gone, err)
	}}
}

func get(db int, key string) call {
	return call{named("Get(%d, %s)", db, short(key)), func(x target) string {
		v, ok := x.Get(db, key)
		return told(v, ok)
	}}
}

func peek(db int, key string) call {
	return call{named("Peek(%d, %s)", db, short(key)), func(x target) string {
		v, ok := x.Peek(db, key)
		return told(v, ok)
	}}
}

// put makes a value of its own for each that is asked; kind KindNone: nil.
func put(db int, key string, kind, n int) call {
	return call{named("Put(%d, %s, kind %d of %d)", db, short(key), kind, n), func(x target) string {
		if kind == api.KindNone {
			return told(x.Put(db, key, nil))
		}
		return told(x.Put(db, key, hold(kind, n)))
	}}
}

// worked works on the value of a key without a word of it.
func worked(db int, key string, n int) call {
	return call{named("work(%d, %s, %d)", db, short(key), n), func(x target) string {
		v, ok := x.Peek(db, key)
		if ok {
			work(v, n)
		}
		return told(v, ok)
	}}
}

func changed(db int, key string) call {
	return call{named("Changed(%d, %s)", db, short(key)), func(x target) string { return told(x.Changed(db, key)) }}
}

func drop(db int, key string) call {
	return call{named("Drop(%d, %s)", db, short(key)), func(x target) string { return told(x.Drop(db, key)) }}
}

func expiry(db int, key string) call {
	return call{named("Expiry(%d, %s)", db, short(key)), func(x target) string {
		at, ok := x.Expiry(db, key)
		return told(at, ok)
	}}
}

func expire(db int, key string, at int) call {
	return call{named("Expire(%d, %s, %d)", db, short(key), at), func(x target) string { return told(x.Expire(db, key, at)) }}
}

func persist(db int, key string) call {
	return call{named("Persist(%d, %s)", db, short(key)), func(x target) string { return told(x.Persist(db, key)) }}
}

func rename(db int, key, to string) call {
	return call{named("Rename(%d, %s, %s)", db, short(key), short(to)), func(x target) string { return told(x.Rename(db, key, to)) }}
}

func move(db int, key string, to int) call {
	return call{named("Move(%d, %s, %d)", db, short(key), to), func(x target) string { return told(x.Move(db, key, to)) }}
}

func swap(a, b int) call {
	return call{named("Swap(%d, %d)", a, b), func(x target) string { return told(x.Swap(a, b)) }}
}

func flush(db int) call {
	return call{named("Flush(%d)", db), func(x target) string { return told(x.Flush(db)) }}
}

func length(db int) call {
	return call{named("Len(%d)", db), func(x target) string { return told(x.Len(db)) }}
}

func keys(db int) call {
	return call{named("Keys(%d)", db), func(x target) string { return told(x.Keys(db)) }}
}

func scan(db, cursor, n int) call {
	return call{named("Scan(%d, %d, %d)", db, cursor, n), func(x target) string {
		list, next := x.Scan(db, cursor, n)
		return told(list, next)
	}}
}

func pick(db, n int) call {
	return call{named("Pick(%d, %d)", db, n), func(x target) string {
		key, ok := x.Pick(db, n)
		return told(key, ok)
	}}
}

func mark(db int, key string) call {
	return call{named("Mark(%d, %s)", db, short(key)), func(x target) string { return told(x.Mark(db, key)) }}
}

func idle(db int, key string) call {
	return call{named("Idle(%d, %s)", db, short(key)), func(x target) string { return told(x.Idle(db, key)) }}
}

func random(n int) call {
	return call{named("Random(%d)", n), func(x target) string { return told(x.Random(n)) }}
}

func spare(need int) call {
	return call{named("Spare(%d)", need), func(x target) string {
		names, err := x.Spare(need)
		return told(names, err)
	}}
}

// pair is a Space and the model, of which the same is asked.
type pair struct {
	t     testing.TB
	s     *Space
	m     *model
	asked []string
}

func config(spaces int) api.Config { return api.Config{Spaces: spaces, Limits: small} }

func newPair(t testing.TB, c api.Config) *pair {
	t.Helper()
	s, err := New(c)
	if s == nil || err != api.OK {
		t.Fatalf("New(%+v): error %d", c, err)
	}
	return &pair{t: t, s: s, m: newModel(c)}
}

func (p *pair) clone() *pair {
	return &pair{t: p.t, s: p.s.Clone(), m: p.m.clone(), asked: append(append([]string{}, p.asked...), "Clone()")}
}

func (p *pair) fail(c call, got, want string) {
	p.t.Helper()
	p.t.Fatalf("behind %s:\n%s = %s; want %s", strings.Join(p.asked[max(0, len(p.asked)-40):], "\n"), c.name, got, want)
}

// ask asks calls, and holds the answers and all that can be seen behind each against the model's.
func (p *pair) ask(calls ...call) {
	p.t.Helper()
	for _, c := range calls {
		p.just(c)
		p.look()
	}
}

// just asks a call and looks at its answer alone.
func (p *pair) just(c call) string {
	p.t.Helper()
	got, want := c.do(p.s), c.do(p.m)
	if got != want {
		p.fail(c, got, want)
	}
	p.asked = append(p.asked, c.name+" = "+got)
	return got
}

// want asks a call and holds its answer against what is written out here as well.
func (p *pair) want(c call, answers ...any) {
	p.t.Helper()
	if got := c.do(p.m); got != told(answers...) {
		p.t.Fatalf("the model: %s = %s; want %s", c.name, got, told(answers...))
	}
	if got := c.do(p.s); got != told(answers...) {
		p.fail(c, got, told(answers...))
	}
	p.asked = append(p.asked, c.name)
	p.look()
}

// look holds all that can be seen without a change against the model.
func (p *pair) look() {
	p.t.Helper()
	p.same("Config", p.s.Config(), p.m.Config())
	p.same("Now", p.s.Now(), p.m.Now())
	p.same("Used", p.s.Used(), p.m.Used())
	for db := -1; db <= p.m.c.Spaces; db++ {
		for _, c := range []call{length(db), keys(db), scan(db, 0, 1), scan(db, 2, 3), scan(db, 0, math.MaxInt), peek(db, "no such key"), expiry(db, "no such key"), mark(db, "no such key"), idle(db, "no such key")} {
			p.check(c)
		}
	}
	for _, k := range p.m.list {
		for _, c := range []call{peek(k.db, k.key), expiry(k.db, k.key), mark(k.db, k.key), idle(k.db, k.key)} {
			p.check(c)
		}
	}
}

func (p *pair) check(c call) {
	p.t.Helper()
	if got, want := c.do(p.s), c.do(p.m); got != want {
		p.fail(c, got, want)
	}
}

func (p *pair) same(name string, got, want any) {
	p.t.Helper()
	if got != want {
		p.fail(call{name: name}, told(got), told(want))
	}
}

// mix gives numbers that look as if by chance, the same ones each time.
type mix uint64

func (m *mix) below(n int) int {
	*m ^= *m << 13
	*m ^= *m >> 7
	*m ^= *m << 17
	return int(uint64(*m) >> 1 % uint64(n))
}

// of is one of the given.
func of[T any](m *mix, list ...T) T { return list[m.below(len(list))] }
