package dump

import (
	"fmt"
	"hash/crc32"
	"slices"
	"strings"
	"testing"

	"cistern/api"
	"cistern/keyspace"
	"cistern/value"
)

func newSpace(limits api.Thresholds, compress bool) *keyspace.Space {
	sp, e := keyspace.New(api.Config{Spaces: databases, Limits: limits, Compress: compress})
	if e != api.OK {
		panic(e)
	}
	return sp
}

// trial holds a space against the model: behind each command all that can be seen of their keys is alike.
type trial struct {
	t  testing.TB
	sp *keyspace.Space
	m  *model
}

func newTrial(t testing.TB, limits api.Thresholds, compress bool) *trial {
	t.Helper()
	return &trial{t, newSpace(limits, compress), newModel(limits, compress)}
}

// begun is a trial at the time 1000, with the keys str, list, set, zset and hash, of a value of each kind, in database 0, timed (a list, till 1500), and k in database 1.
func begun(t testing.TB) *trial {
	t.Helper()
	p := newTrial(t, middle, true)
	p.advance(1000)
	for i, key := range []string{"str", "list", "set", "zset", "hash"} {
		p.give(0, key, made(kinds[i], middle, "3", "1"))
	}
	p.give(0, "timed", made(api.KindList, middle, "5", "6"))
	p.expire(0, "timed", 1500)
	p.give(1, "k", made(api.KindHash, middle, "a", "b"))
	return p
}

// give puts a value under a key of both.
func (p *trial) give(db int, key string, v *value.Value) {
	p.t.Helper()
	if e := p.sp.Put(db, key, v.Clone()); e != api.OK {
		p.t.Fatalf("Put(%d, %q): error %d", db, key, e)
	}
	p.m.put(db, key, v.Clone())
	p.look()
}

func (p *trial) expire(db int, key string, at int) {
	p.t.Helper()
	p.sp.Expire(db, key, at)
	p.m.expire(db, key, at)
	p.look()
}

func (p *trial) advance(n int) {
	p.t.Helper()
	if _, e := p.sp.Advance(n); e != api.OK {
		p.t.Fatalf("Advance(%d): error %d", n, e)
	}
	p.m.advance(n)
	p.look()
}

// shows is all that can be seen of a value.
func shows(v *value.Value) string {
	parts := append([]string{v.Encoding()}, v.Raw()...)
	for cursor, first := 0, true; (first || cursor != 0) && len(parts) < 400; first = false {
		var names []string
		names, cursor, _ = v.Scan(cursor, 1)
		parts = append(append(parts, fmt.Sprint(cursor)), names...)
	}
	all := fmt.Sprintf("%q", parts)
	if len(all) > 400 {
		return fmt.Sprintf("%s.. (%d bytes with the sum %d)", all[:100], len(all), crc32.ChecksumIEEE([]byte(all)))
	}
	return all
}

// seen is all that can be seen of a key.
type seen struct {
	kind            int
	shows           string
	due, mark, idle int
}

func seenIn(sp *keyspace.Space, db int, key string) seen {
	v, ok := sp.Peek(db, key)
	if !ok {
		return seen{}
	}
	due, _ := sp.Expiry(db, key)
	return seen{v.Kind(), shows(v), due, sp.Mark(db, key), sp.Idle(db, key)}
}

func (m *model) seen(db int, key string) seen {
	e := m.peek(db, key)
	if e == nil {
		return seen{}
	}
	return seen{e.v.Kind(), shows(e.v), e.due, e.mark, m.uses - e.use}
}

// look fails if the space's keys are not the model's.
func (p *trial) look() {
	p.t.Helper()
	for db := range databases {
		keys := p.m.rising(db)
		if got := p.sp.Keys(db); !slices.Equal(got, keys) {
			p.t.Fatalf("database %d has the keys %q; want %q", db, got, keys)
		}
		for _, key := range keys {
			if got, want := seenIn(p.sp, db, key), p.m.seen(db, key); got != want {
				p.t.Fatalf("database %d, %s: %v; want %v", db, short(key), got, want)
			}
		}
		for cursor, first := 0, true; first || cursor != 0; first = false {
			got, next := p.sp.Scan(db, cursor, 1)
			want, then := p.m.shelf(db).order.Scan(cursor, 1)
			if !slices.Equal(got, want) || next != then {
				p.t.Fatalf("database %d is scanned from %d as %q, %d; want %q, %d", db, cursor, got, next, want, then)
			}
			cursor = next
		}
	}
	if p.sp.Now() != p.m.now {
		p.t.Fatalf("the clock is %d; want %d", p.sp.Now(), p.m.now)
	}
}

// all is all that can be seen of all keys, and what the next mark and use will be.
func (p *trial) all() string {
	var b strings.Builder
	for db := range databases {
		for _, key := range p.sp.Keys(db) {
			fmt.Fprintf(&b, "%d %s: %v\n", db, short(key), seenIn(p.sp, db, key))
		}
	}
	return b.String()
}

// told writes a reply in one line.
func told(r api.Reply) string {
	switch r.Kind {
	case api.ReplyNull:
		return "_"
	case api.ReplyStatus:
		return "+" + r.Text
	case api.ReplyError:
		return "-" + r.Text
	case api.ReplyBulk:
		return "$" + r.Text
	}
	return fmt.Sprintf("%+v", r)
}

// same tells whether two replies are alike in every field; those of this layer have no lists.
func same(a, b api.Reply) bool {
	return a.Kind == b.Kind && a.Text == b.Text && a.N == b.N && len(a.List) == 0 && len(b.List) == 0
}

func line(args []string) string {
	if len(args) > 40 {
		return fmt.Sprintf("%q .. (%d words)", args[:2], len(args))
	}
	all := make([]string, len(args))
	for i, word := range args {
		all[i] = short(word)
	}
	return strings.Join(all, " ")
}

// askIn does words in a database of both.
func (p *trial) askIn(db int, args ...string) string {
	p.t.Helper()
	before := slices.Clone(args)
	got, want := Do(p.sp, db, args), p.m.do(db, args)
	if !same(got, want) {
		p.t.Fatalf("%s in %d: %s; want %s", line(args), db, short(told(got)), short(told(want)))
	}
	if !slices.Equal(args, before) {
		p.t.Fatalf("%s has become %s", line(before), line(args))
	}
	p.look()
	return told(got)
}

func (p *trial) ask(args ...string) string {
	p.t.Helper()
	return p.askIn(0, args...)
}

// want asks words, and says what is told.
func (p *trial) want(want string, args ...string) {
	p.t.Helper()
	if got := p.ask(args...); got != want {
		p.t.Fatalf("%s: %s; want %s", line(args), short(got), short(want))
	}
}

// wantIn is the same in a database.
func (p *trial) wantIn(db int, want string, args ...string) {
	p.t.Helper()
	if got := p.askIn(db, args...); got != want {
		p.t.Fatalf("%s in %d: %s; want %s", line(args), db, short(got), short(want))
	}
}

// keeps asks words that change nothing at all, not even a use.
func (p *trial) keeps(want string, args ...string) {
	p.t.Helper()
	p.keepsIn(0, want, args...)
}

func (p *trial) keepsIn(db int, want string, args ...string) {
	p.t.Helper()
	before := p.all()
	p.wantIn(db, want, args...)
	if got := p.all(); got != before {
		p.t.Fatalf("%s changed\n%s\ninto\n%s", line(args), before, got)
	}
}

// refuses asks words that end with an error, by which nothing changes.
func (p *trial) refuses(want string, args ...string) {
	p.t.Helper()
	p.keeps("-"+want, args...)
}

// holds says that a key of a database is there, with a value and an expiry (-1: none).
func (p *trial) holds(db int, key string, v *value.Value, due int) {
	p.t.Helper()
	got, ok := p.sp.Peek(db, key)
	if !ok || !got.Equal(v) || !v.Equal(got) {
		p.t.Fatalf("%s in %d holds another value, or none", short(key), db)
	}
	if at, _ := p.sp.Expiry(db, key); at != due {
		p.t.Fatalf("%s in %d expires at %d; want %d", short(key), db, at, due)
	}
}

// gone says that a key of a database is not there.
func (p *trial) gone(db int, key string) {
	p.t.Helper()
	if _, ok := p.sp.Peek(db, key); ok {
		p.t.Fatalf("%s is there in %d", short(key), db)
	}
}
