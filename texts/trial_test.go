package texts

import (
	"fmt"
	"hash/crc32"
	"maps"
	"slices"
	"strings"
	"testing"

	"cistern/api"
	"cistern/keyspace"
	"cistern/resp"
	"cistern/value"
)

var kinds = []int{api.KindString, api.KindList, api.KindSet, api.KindZset, api.KindHash}

func config() api.Config {
	return api.Config{Spaces: 2, Limits: api.Thresholds{ListEntries: 4, ListBytes: 8, SetInts: 4, SetEntries: 4, SetBytes: 8, ZsetEntries: 4, ZsetBytes: 8, HashEntries: 4, HashBytes: 8}}
}

// trial holds a space against the model: behind each command all that can be seen of their keys is alike.
type trial struct {
	t  testing.TB
	sp *keyspace.Space
	m  *model
}

func newTrial(t testing.TB) *trial {
	t.Helper()
	sp, e := keyspace.New(config())
	if e != api.OK {
		t.Fatalf("keyspace.New: error %d", e)
	}
	return &trial{t, sp, &model{spaces: []map[string]*entry{{}, {}}}}
}

// holding makes a value of a kind with two elements (a string: the text `text`).
func holding(kind int) *value.Value {
	v, e := value.New(kind, config().Limits)
	if e != api.OK {
		panic(e)
	}
	switch kind {
	case api.KindString:
		v.SetText("text")
	case api.KindList:
		v.Push(false, "1", "2")
	case api.KindSet:
		v.Add("1", "2")
	case api.KindZset:
		v.ZAdd(api.Scored{Member: "1", Score: 1}, api.Scored{Member: "2", Score: 2})
	case api.KindHash:
		v.Put(api.Field{Name: "1", Value: "2"}, api.Field{Name: "3", Value: "4"})
	}
	return v
}

// give puts a value of a kind under a key of both.
func (p *trial) give(db int, key string, kind int) {
	p.t.Helper()
	v := holding(kind)
	if e := p.sp.Put(db, key, v); e != api.OK {
		p.t.Fatalf("Put(%d, %q): error %d", db, key, e)
	}
	p.m.put(db, key, shows(v))
	p.m.spaces[db][key].kind = kind
	p.m.spaces[db][key].encoding = v.Encoding()
	p.look()
}

func (p *trial) expire(db int, key string, at int) {
	p.t.Helper()
	p.sp.Expire(db, key, at)
	p.m.expire(db, key, at)
	p.look()
}

func (p *trial) advance(n int) {
	p.t.Helper()
	if _, e := p.sp.Advance(n); e != api.OK {
		p.t.Fatalf("Advance(%d): error %d", n, e)
	}
	p.m.advance(n)
	p.look()
}

// shows is a string's text, or the pieces of another value.
func shows(v *value.Value) string {
	if s, e := v.Text(); e == api.OK {
		return s
	}
	return fmt.Sprintf("%q", v.Raw())
}

// encoded is the encoding that chapter 10 tells of a text.
func encoded(s string) string {
	if _, ok := whole(s); ok {
		return "int"
	}
	if len(s) <= 44 {
		return "embstr"
	}
	return "raw"
}

// seen is all that can be seen of a key.
type seen struct {
	kind            int
	text, encoding  string
	due, mark, idle int
}

func (s seen) String() string {
	return fmt.Sprintf("kind %d %s (sum %d) %s, due %d, mark %d, idle %d", s.kind, short(s.text), crc32.ChecksumIEEE([]byte(s.text)), s.encoding, s.due, s.mark, s.idle)
}

func short(s string) string {
	if len(s) > 200 {
		return fmt.Sprintf("%d bytes that begin with %q", len(s), s[:20])
	}
	return fmt.Sprintf("%q", s)
}

func seenIn(sp *keyspace.Space, db int, key string) seen {
	v, ok := sp.Peek(db, key)
	if !ok {
		return seen{}
	}
	due, _ := sp.Expiry(db, key)
	return seen{v.Kind(), shows(v), v.Encoding(), due, sp.Mark(db, key), sp.Idle(db, key)}
}

func (m *model) seen(db int, key string) seen {
	e := m.spaces[db][key]
	encoding := e.encoding
	if e.kind == api.KindString {
		encoding = encoded(e.text)
	}
	return seen{e.kind, e.text, encoding, e.due, e.mark, m.uses - e.use}
}

// look fails if the space's keys are not the model's.
func (p *trial) look() {
	p.t.Helper()
	for db, held := range p.m.spaces {
		keys := slices.Sorted(maps.Keys(held))
		if got := p.sp.Keys(db); !slices.Equal(got, keys) {
			p.t.Fatalf("database %d has the keys %q; want %q", db, got, keys)
		}
		for _, key := range keys {
			if got, want := seenIn(p.sp, db, key), p.m.seen(db, key); got != want {
				p.t.Fatalf("database %d, %s: %v; want %v", db, short(key), got, want)
			}
		}
	}
	if p.sp.Now() != p.m.now || p.sp.Config() != config() {
		p.t.Fatalf("the clock is %d, the config %+v", p.sp.Now(), p.sp.Config())
	}
}

// told writes a reply in one line.
func told(r api.Reply) string {
	switch r.Kind {
	case api.ReplyNull:
		return "_"
	case api.ReplyStatus:
		return "+" + r.Text
	case api.ReplyError:
		return "-" + r.Text
	case api.ReplyInt:
		return fmt.Sprint(":", r.N)
	case api.ReplyBulk:
		return "$" + r.Text
	case api.ReplyArray:
		all := make([]string, len(r.List))
		for i, one := range r.List {
			all[i] = told(one)
		}
		return "*" + strings.Join(all, " ")
	}
	return fmt.Sprintf("%+v", r)
}

// same tells whether two replies are alike in every field.
func same(a, b api.Reply) bool {
	return a.Kind == b.Kind && a.Text == b.Text && a.N == b.N && slices.EqualFunc(a.List, b.List, same)
}

func line(args []string) string {
	all := make([]string, len(args))
	for i, word := range args {
		all[i] = short(word)
	}
	return strings.Join(all, " ")
}

// askIn does words in a database of both.
func (p *trial) askIn(db int, args ...string) string {
	p.t.Helper()
	before := slices.Clone(args)
	got, want := Do(p.sp, db, args), p.m.do(db, args)
	if !same(got, want) {
		p.t.Fatalf("%s in %d: %s; want %s", line(args), db, short(told(got)), short(told(want)))
	}
	if !slices.Equal(args, before) {
		p.t.Fatalf("%s has become %s", line(before), line(args))
	}
	p.look()
	return told(got)
}

func (p *trial) ask(args ...string) string {
	p.t.Helper()
	return p.askIn(0, args...)
}

// want asks a line of words, and says what is told.
func (p *trial) want(words string, want string) {
	p.t.Helper()
	if got := p.ask(split(words)...); got != want {
		p.t.Fatalf("%s: %s; want %s", words, short(got), short(want))
	}
}

// refuses asks a line of words that ends with an error, by which nothing but uses changes.
func (p *trial) refuses(words string, want string) {
	p.t.Helper()
	p.refusesWords(want, split(words)...)
}

func (p *trial) refusesWords(want string, args ...string) {
	p.t.Helper()
	before := p.unused()
	if got := p.ask(args...); got != "-"+want {
		p.t.Fatalf("%s: %s; want %s", line(args), short(got), want)
	}
	if got := p.unused(); got != before {
		p.t.Fatalf("%s was refused, and changed\n%s\ninto\n%s", line(args), before, got)
	}
}

// unused is all that can be seen of all keys, but for their uses.
func (p *trial) unused() string {
	var b strings.Builder
	for db := range config().Spaces {
		for _, key := range p.sp.Keys(db) {
			s := seenIn(p.sp, db, key)
			s.idle = 0
			fmt.Fprintf(&b, "%d %s: %v\n", db, short(key), s)
		}
	}
	return b.String()
}

// mix gives numbers that look like chance.
type mix uint64

func (m *mix) below(n int) int {
	x := uint64(*m)
	x ^= x << 13
	x ^= x >> 7
	x ^= x << 17
	*m = mix(x)
	return int((x >> 11) % uint64(n))
}

func pick[T any](m *mix, list ...T) T { return list[m.below(len(list))] }

// split are the words of a line.
func split(line string) []string {
	args, ok := resp.Split(line)
	if !ok {
		panic(line)
	}
	return args
}
