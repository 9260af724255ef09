package keys

import (
	"fmt"
	"hash/crc32"
	"slices"
	"strings"
	"testing"

	"cistern/api"
	"cistern/keyspace"
	"cistern/resp"
	"cistern/value"
)

var kinds = []int{api.KindString, api.KindList, api.KindSet, api.KindZset, api.KindHash}

// The least thresholds that may be, some in the midst, and the greatest ones.
func leastLimits() api.Thresholds { return api.Thresholds{ListEntries: 1} }
func someLimits() api.Thresholds {
	return api.Thresholds{ListEntries: 4, ListBytes: 8, SetInts: 4, SetEntries: 4, SetBytes: 8, ZsetEntries: 4, ZsetBytes: 8, HashEntries: 4, HashBytes: 8}
}
func greatestLimits() api.Thresholds {
	return api.Thresholds{ListEntries: 4096, ListBytes: 4096, SetInts: api.MaxCount, SetEntries: 4096, SetBytes: 4096, ZsetEntries: 4096, ZsetBytes: 4096, HashEntries: 4096, HashBytes: 4096}
}

func allLimits() []api.Thresholds {
	return []api.Thresholds{leastLimits(), someLimits(), greatestLimits()}
}

func newSpace(limits api.Thresholds) *keyspace.Space {
	return spaceOf(api.Config{Spaces: databases, Limits: limits})
}

func spaceOf(c api.Config) *keyspace.Space {
	sp, e := keyspace.New(c)
	if e != api.OK {
		panic(e)
	}
	return sp
}

// made is a value of a kind with texts: entries, members, members with the scores 0, 1, 2 and so on, fields with themselves as values; of a string the first one.
func made(kind int, limits api.Thresholds, texts ...string) *value.Value {
	v, e := value.New(kind, limits)
	for i, text := range texts {
		switch kind {
		case api.KindString:
			e = max(e, v.SetText(texts[0]))
		case api.KindList:
			e = max(e, v.Push(false, text))
		case api.KindSet:
			_, err := v.Add(text)
			e = max(e, err)
		case api.KindZset:
			_, err := v.ZAdd(api.Scored{Member: text, Score: i})
			e = max(e, err)
		case api.KindHash:
			_, err := v.Put(api.Field{Name: text, Value: text})
			e = max(e, err)
		}
	}
	if e != api.OK {
		panic(e)
	}
	return v
}

// trial holds a space against the model: behind each command all that can be seen of their keys is alike.
type trial struct {
	t  testing.TB
	sp *keyspace.Space
	m  *model
}

func newTrial(t testing.TB, limits api.Thresholds) *trial {
	t.Helper()
	return &trial{t, newSpace(limits), newModel(limits)}
}

// begun is a trial at the time 1000, with the keys other (a list 5, 6, till 1500) in database 0 and k, elsewhere in database 1.
func begun(t testing.TB) *trial {
	t.Helper()
	p := newTrial(t, someLimits())
	p.advance(1000)
	p.give(0, "other", api.KindList, "5", "6")
	p.expire(0, "other", 1500)
	p.give(1, "k", api.KindHash, "a", "b")
	p.give(1, "elsewhere", api.KindString, "x")
	return p
}

// withKeys is a trial with a key of each kind, str, list, set, zset, hash, each of 3, 1, 2 (str: 3), and with the key timed (a string, till 4000).
func withKeys(t testing.TB) *trial {
	t.Helper()
	p := begun(t)
	for i, key := range []string{"str", "list", "set", "zset", "hash"} {
		p.give(0, key, kinds[i], "3", "1", "2")
	}
	p.give(0, "timed", api.KindString, "x")
	p.expire(0, "timed", 4000)
	return p
}

// give puts a value under a key of both.
func (p *trial) give(db int, key string, kind int, texts ...string) {
	p.t.Helper()
	if e := p.sp.Put(db, key, made(kind, p.m.limits, texts...)); e != api.OK {
		p.t.Fatalf("Put(%d, %q): error %d", db, key, e)
	}
	p.m.put(db, key, made(kind, p.m.limits, texts...))
	p.look()
}

func (p *trial) expire(db int, key string, at int) {
	p.t.Helper()
	p.sp.Expire(db, key, at)
	p.m.expire(db, key, at)
	p.look()
}

func (p *trial) advance(n int) {
	p.t.Helper()
	if _, e := p.sp.Advance(n); e != api.OK {
		p.t.Fatalf("Advance(%d): error %d", n, e)
	}
	p.m.advance(n)
	p.look()
}

// shows is all that can be seen of a value.
func shows(v *value.Value) string {
	parts := append([]string{v.Encoding()}, v.Raw()...)
	for cursor, first := 0, true; (first || cursor != 0) && len(parts) < 400; first = false {
		var names []string
		names, cursor, _ = v.Scan(cursor, 1)
		parts = append(append(parts, fmt.Sprint(cursor)), names...)
	}
	return listing(parts)
}

// listing is what a list of texts shows: so many that all of them can't be told are told by their sum.
func listing(texts []string) string {
	size := 0
	for _, s := range texts {
		size += len(s) + 1
	}
	if size < 400 {
		return fmt.Sprintf("%q", texts)
	}
	sum := crc32.NewIEEE()
	for _, s := range texts {
		fmt.Fprintf(sum, "%d,", len(s))
		sum.Write([]byte(s))
	}
	return fmt.Sprintf("%d texts, the first %s, their sum %d", len(texts), short(texts[0]), sum.Sum32())
}

// seen is all that can be seen of a key.
type seen struct {
	kind            int
	shows           string
	due, mark, idle int
}

func (s seen) String() string {
	return fmt.Sprintf("kind %d %s, due %d, mark %d, idle %d", s.kind, s.shows, s.due, s.mark, s.idle)
}

func short(s string) string {
	if len(s) > 400 {
		return fmt.Sprintf("%d bytes that begin with %q", len(s), s[:20])
	}
	return fmt.Sprintf("%q", s)
}

func seenIn(sp *keyspace.Space, db int, key string) seen {
	v, ok := sp.Peek(db, key)
	if !ok {
		return seen{}
	}
	due, _ := sp.Expiry(db, key)
	return seen{v.Kind(), shows(v), due, sp.Mark(db, key), sp.Idle(db, key)}
}

func (m *model) seen(db int, key string) seen {
	e := m.peek(db, key)
	if e == nil {
		return seen{}
	}
	return seen{e.v.Kind(), shows(e.v), e.due, e.mark, m.uses - e.use}
}

// look fails if the space's keys are not the model's.
func (p *trial) look() {
	p.t.Helper()
	for db := range databases {
		keys := p.m.rising(db)
		if got := p.sp.Keys(db); !slices.Equal(got, keys) {
			p.t.Fatalf("database %d has the keys %q; want %q", db, got, keys)
		}
		for _, key := range keys {
			if got, want := seenIn(p.sp, db, key), p.m.seen(db, key); got != want {
				p.t.Fatalf("database %d, %s: %v; want %v", db, short(key), got, want)
			}
		}
		for cursor, first := 0, true; first || cursor != 0; first = false {
			got, next := p.sp.Scan(db, cursor, 1)
			want, then := p.m.shelf(db).order.Scan(cursor, 1)
			if !slices.Equal(got, want) || next != then {
				p.t.Fatalf("database %d is scanned from %d as %q, %d; want %q, %d", db, cursor, got, next, want, then)
			}
			cursor = next
		}
	}
	if p.sp.Now() != p.m.now {
		p.t.Fatalf("the clock is %d; want %d", p.sp.Now(), p.m.now)
	}
	if got, want := p.sp.Clone().Random(1<<30), p.m.next(1<<30); got != want {
		p.t.Fatalf("the next number by chance is %d; want %d", got, want)
	}
}

// told writes a reply in one line: arrays in brackets.
func told(r api.Reply) string {
	switch r.Kind {
	case api.ReplyNull:
		return "_"
	case api.ReplyStatus:
		return "+" + r.Text
	case api.ReplyError:
		return "-" + r.Text
	case api.ReplyInt:
		return fmt.Sprint(":", r.N)
	case api.ReplyBulk:
		return "$" + r.Text
	case api.ReplyArray:
		all := make([]string, len(r.List))
		for i, one := range r.List {
			all[i] = told(one)
		}
		return "[" + strings.Join(all, " ") + "]"
	}
	return fmt.Sprintf("%+v", r)
}

// same tells whether two replies are alike in every field.
func same(a, b api.Reply) bool {
	return a.Kind == b.Kind && a.Text == b.Text && a.N == b.N && slices.EqualFunc(a.List, b.List, same)
}

func line(args []string) string {
	if len(args) > 40 {
		return fmt.Sprintf("%q .. (%d words)", args[:2], len(args))
	}
	all := make([]string, len(args))
	for i, word := range args {
		all[i] = short(word)
	}
	return strings.Join(all, " ")
}

// askIn does words in a database of both.
func (p *trial) askIn(db int, args ...string) string {
	p.t.Helper()
	before := slices.Clone(args)
	got, want := Do(p.sp, db, args), p.m.do(db, args)
	if !same(got, want) {
		p.t.Fatalf("%s in %d: %s; want %s", line(args), db, short(told(got)), short(told(want)))
	}
	if !slices.Equal(args, before) {
		p.t.Fatalf("%s has become %s", line(before), line(args))
	}
	p.look()
	return told(got)
}

func (p *trial) ask(args ...string) string {
	p.t.Helper()
	return p.askIn(0, args...)
}

// want asks a line of words, and says what is told.
func (p *trial) want(words string, want string) {
	p.t.Helper()
	p.wantWords(want, split(words)...)
}

func (p *trial) wantIn(db int, words string, want string) {
	p.t.Helper()
	if got := p.askIn(db, split(words)...); got != want {
		p.t.Fatalf("%s in %d: %s; want %s", words, db, short(got), short(want))
	}
}

func (p *trial) wantWords(want string, args ...string) {
	p.t.Helper()
	if got := p.ask(args...); got != want {
		p.t.Fatalf("%s: %s; want %s", line(args), short(got), short(want))
	}
}

// entries are those of a key that is a list.
func (p *trial) entries(key string) string {
	v, ok := p.sp.Peek(0, key)
	if !ok {
		return "none"
	}
	list, e := v.Range(0, v.Len())
	if e != api.OK {
		return "no list"
	}
	return strings.Join(list, " ")
}

// due says when a key of a database expires; -1: never; 0, if it is not there.
func (p *trial) due(db int, key string, want int) {
	p.t.Helper()
	if at, _ := p.sp.Expiry(db, key); at != want {
		p.t.Fatalf("%s in %d expires at %d; want %d", key, db, at, want)
	}
}

// refuses asks a line of words that ends with an error, by which nothing but uses changes.
func (p *trial) refuses(words string, want string) {
	p.t.Helper()
	p.refusesWords(want, split(words)...)
}

func (p *trial) refusesWords(want string, args ...string) {
	p.t.Helper()
	p.keeps("-"+want, args...)
}

// keeps asks words that change nothing but uses.
func (p *trial) keeps(want string, args ...string) {
	p.t.Helper()
	before := p.unused()
	p.wantWords(want, args...)
	if got := p.unused(); got != before {
		p.t.Fatalf("%s changed\n%s\ninto\n%s", line(args), before, got)
	}
}

// unused is all that can be seen of all keys, but for their uses.
func (p *trial) unused() string {
	var b strings.Builder
	for db := range databases {
		for _, key := range p.sp.Keys(db) {
			s := seenIn(p.sp, db, key)
			s.idle = 0
			fmt.Fprintf(&b, "%d %s: %v\n", db, short(key), s)
		}
	}
	return b.String()
}

// uses are the keys of a database with their idle times.
func (p *trial) uses(db int) string {
	var list []string
	for _, key := range p.sp.Keys(db) {
		list = append(list, fmt.Sprint(key, "=", p.sp.Idle(db, key)))
	}
	return strings.Join(list, " ")
}

// mix gives numbers that look like chance.
type mix uint64

func (m *mix) below(n int) int {
	x := uint64(*m)
	x ^= x << 13
	x ^= x >> 7
	x ^= x << 17
	*m = mix(x)
	return int((x >> 11) % uint64(n))
}

func pick[T any](m *mix, list ...T) T { return list[m.below(len(list))] }

// split are the words of a line.
func split(line string) []string {
	args, ok := resp.Split(line)
	if !ok {
		panic(line)
	}
	return args
}

const (
	greatest = "9223372036854775807"
	least    = "-9223372036854775808"
)

// noNumbers are words that are no number's text.
func noNumbers() []string {
	return []string{"", "x", "1x", " 1", "1 ", "+1", "01", "-0", "1.5", "1e3", "--1", "-", "9223372036854775808", "-9223372036854775809", strings.Repeat("1", 100)}
}
