package zsets

import (
	"fmt"
	"hash/crc32"
	"maps"
	"slices"
	"strings"
	"testing"

	"cistern/api"
	"cistern/keyspace"
	"cistern/resp"
	"cistern/value"
)

var kinds = []int{api.KindString, api.KindList, api.KindSet, api.KindZset, api.KindHash}

// others are the kinds that are no sorted sets.
func others() []int { return []int{api.KindString, api.KindList, api.KindSet, api.KindHash} }

// strange are the kinds that are neither sorted sets nor sets.
func strange() []int { return []int{api.KindString, api.KindList, api.KindHash} }

// The least thresholds that may be, some in the midst, and the greatest ones.
func leastLimits() api.Thresholds { return api.Thresholds{ListEntries: 1} }
func someLimits() api.Thresholds {
	return api.Thresholds{ListEntries: 4, ListBytes: 8, SetInts: 4, SetEntries: 4, SetBytes: 8, ZsetEntries: 4, ZsetBytes: 8, HashEntries: 4, HashBytes: 8}
}
func greatestLimits() api.Thresholds {
	return api.Thresholds{ListEntries: 4096, ListBytes: 4096, SetInts: api.MaxCount, SetEntries: 4096, SetBytes: 4096, ZsetEntries: 4096, ZsetBytes: 4096, HashEntries: 4096, HashBytes: 4096}
}

func allLimits() []api.Thresholds {
	return []api.Thresholds{leastLimits(), someLimits(), greatestLimits()}
}

func newSpace(limits api.Thresholds) *keyspace.Space {
	sp, e := keyspace.New(api.Config{Spaces: 2, Limits: limits})
	if e != api.OK {
		panic(e)
	}
	return sp
}

// trial holds a space against the model: behind each command all that can be seen of their keys is alike.
type trial struct {
	t  testing.TB
	sp *keyspace.Space
	m  *model
}

func newTrial(t testing.TB, limits api.Thresholds) *trial {
	t.Helper()
	return &trial{t, newSpace(limits), newModel(limits)}
}

// begun is a trial at the time 1000, with other keys about.
func begun(t testing.TB) *trial {
	t.Helper()
	p := newTrial(t, someLimits())
	p.advance(1000)
	p.want("ZADD other 1 a", ":1")
	p.expire(0, "other", 1500)
	p.askIn(1, "ZADD", "k", "7", "elsewhere", "9", "a")
	return p
}

// withZsets is a trial with the sorted sets z (a 1, b 2, c 2), y (b 5, c -1, d 9) and one (e 5), and the set s (a, b, x).
func withZsets(t testing.TB) *trial {
	t.Helper()
	p := begun(t)
	p.want("ZADD z 2 c 1 a 2 b", ":3")
	p.want("ZADD y 5 b -1 c 9 d", ":3")
	p.want("ZADD one 5 e", ":1")
	p.giveSet(0, "s", "a", "b", "x")
	return p
}

// holding makes a value of a kind with two elements (a string: the text `text`).
func holding(kind int, limits api.Thresholds) *value.Value {
	v, e := value.New(kind, limits)
	if e != api.OK {
		panic(e)
	}
	switch kind {
	case api.KindString:
		v.SetText("text")
	case api.KindList:
		v.Push(false, "1", "2")
	case api.KindSet:
		v.Add("1", "2")
	case api.KindZset:
		v.ZAdd(api.Scored{Member: "1", Score: 1}, api.Scored{Member: "2", Score: 2})
	case api.KindHash:
		v.Put(api.Field{Name: "1", Value: "2"}, api.Field{Name: "3", Value: "4"})
	}
	return v
}

// give puts a value of a kind under a key of both.
func (p *trial) give(db int, key string, kind int) {
	p.t.Helper()
	v := holding(kind, p.sp.Config().Limits)
	if e := p.sp.Put(db, key, v); e != api.OK {
		p.t.Fatalf("Put(%d, %q): error %d", db, key, e)
	}
	e := &entry{kind: kind, shows: shows(v)}
	switch kind {
	case api.KindZset:
		e = p.m.newZset(membersIn(v)...)
	case api.KindSet:
		e.scores = map[string]int{"1": 1, "2": 1}
	}
	p.m.put(db, key, e)
	p.look()
}

// giveSet puts a set under a key of both.
func (p *trial) giveSet(db int, key string, members ...string) {
	p.t.Helper()
	v, _ := value.New(api.KindSet, p.sp.Config().Limits)
	v.Add(members...)
	p.sp.Put(db, key, v)
	e := &entry{kind: api.KindSet, shows: shows(v), scores: map[string]int{}}
	for _, member := range members {
		e.scores[member] = 1
	}
	p.m.put(db, key, e)
	p.look()
}

func (p *trial) expire(db int, key string, at int) {
	p.t.Helper()
	p.sp.Expire(db, key, at)
	p.m.expire(db, key, at)
	p.look()
}

func (p *trial) advance(n int) {
	p.t.Helper()
	if _, e := p.sp.Advance(n); e != api.OK {
		p.t.Fatalf("Advance(%d): error %d", n, e)
	}
	p.m.advance(n)
	p.look()
}

func membersIn(v *value.Value) []api.Scored {
	list, _ := v.ByRank(0, v.Len(), false)
	return list
}

// turns are members and scores in turns.
func turns(list []api.Scored) []string {
	var texts []string
	for _, s := range list {
		texts = append(texts, s.Member, fmt.Sprint(s.Score))
	}
	return texts
}

// shows is all that a value holds: of a sorted set its members and scores, of another one its pieces.
func shows(v *value.Value) string {
	if v.Kind() == api.KindZset {
		return listing(turns(membersIn(v)))
	}
	return fmt.Sprintf("%s %q", v.Encoding(), v.Raw())
}

// listing is what a list of texts shows: so many that all of them can't be told are told by their sum.
func listing(texts []string) string {
	size := 0
	for _, s := range texts {
		size += len(s) + 1
	}
	if size < 400 {
		return fmt.Sprintf("%q", texts)
	}
	sum := crc32.NewIEEE()
	for _, s := range texts {
		fmt.Fprintf(sum, "%d,", len(s))
		sum.Write([]byte(s))
	}
	return fmt.Sprintf("%d texts, the first %s, their sum %d", len(texts), short(texts[0]), sum.Sum32())
}

// kept is how a sorted set is kept: its encoding, its pieces, and the order of its scans.
func kept(v *value.Value) string {
	parts := append([]string{v.Encoding()}, v.Raw()...)
	for cursor, first := 0, true; (first || cursor != 0) && len(parts) < 400; first = false {
		var names []string
		names, cursor, _ = v.Scan(cursor, 1)
		parts = append(append(parts, fmt.Sprint(cursor)), names...)
	}
	return listing(parts)
}

// seen is all that can be seen of a key.
type seen struct {
	kind            int
	shows           string
	due, mark, idle int
}

func (s seen) String() string {
	return fmt.Sprintf("kind %d %s, due %d, mark %d, idle %d", s.kind, s.shows, s.due, s.mark, s.idle)
}

func short(s string) string {
	if len(s) > 400 {
		return fmt.Sprintf("%d bytes that begin with %q", len(s), s[:20])
	}
	return fmt.Sprintf("%q", s)
}

func seenIn(sp *keyspace.Space, db int, key string) seen {
	v, ok := sp.Peek(db, key)
	if !ok {
		return seen{}
	}
	due, _ := sp.Expiry(db, key)
	return seen{v.Kind(), shows(v), due, sp.Mark(db, key), sp.Idle(db, key)}
}

func (m *model) seen(db int, key string) seen {
	e := m.spaces[db][key]
	if e.kind == api.KindZset {
		return seen{e.kind, listing(turns(e.ordered(false))), e.due, e.mark, m.uses - e.use}
	}
	return seen{e.kind, e.shows, e.due, e.mark, m.uses - e.use}
}

// look fails if the space's keys are not the model's.
func (p *trial) look() {
	p.t.Helper()
	for db, held := range p.m.spaces {
		keys := slices.Sorted(maps.Keys(held))
		if got := p.sp.Keys(db); !slices.Equal(got, keys) {
			p.t.Fatalf("database %d has the keys %q; want %q", db, got, keys)
		}
		for _, key := range keys {
			if got, want := seenIn(p.sp, db, key), p.m.seen(db, key); got != want {
				p.t.Fatalf("database %d, %s: %v; want %v", db, short(key), got, want)
			}
			if held[key].kind != api.KindZset {
				continue
			}
			v, _ := p.sp.Peek(db, key)
			if got, want := kept(v), kept(held[key].kept); got != want {
				p.t.Fatalf("database %d, %s is kept as %s; want %s", db, short(key), got, want)
			}
		}
	}
	if p.sp.Now() != p.m.now {
		p.t.Fatalf("the clock is %d; want %d", p.sp.Now(), p.m.now)
	}
	if got, want := p.sp.Clone().Random(1<<30), p.m.next(1<<30); got != want {
		p.t.Fatalf("the next number by chance is %d; want %d", got, want)
	}
}

// told writes a reply in one line: arrays in brackets.
func told(r api.Reply) string {
	switch r.Kind {
	case api.ReplyNull:
		return "_"
	case api.ReplyNulls:
		return "__"
	case api.ReplyError:
		return "-" + r.Text
	case api.ReplyInt:
		return fmt.Sprint(":", r.N)
	case api.ReplyBulk:
		return "$" + r.Text
	case api.ReplyArray:
		all := make([]string, len(r.List))
		for i, one := range r.List {
			all[i] = told(one)
		}
		return "[" + strings.Join(all, " ") + "]"
	}
	return fmt.Sprintf("%+v", r)
}

// same tells whether two replies are alike in every field.
func same(a, b api.Reply) bool {
	return a.Kind == b.Kind && a.Text == b.Text && a.N == b.N && slices.EqualFunc(a.List, b.List, same)
}

func line(args []string) string {
	if len(args) > 40 {
		return fmt.Sprintf("%q .. (%d words)", args[:2], len(args))
	}
	all := make([]string, len(args))
	for i, word := range args {
		all[i] = short(word)
	}
	return strings.Join(all, " ")
}

// askIn does words in a database of both.
func (p *trial) askIn(db int, args ...string) string {
	p.t.Helper()
	before := slices.Clone(args)
	got, want := Do(p.sp, db, args), p.m.do(db, args)
	if !same(got, want) {
		p.t.Fatalf("%s in %d: %s; want %s", line(args), db, short(told(got)), short(told(want)))
	}
	if !slices.Equal(args, before) {
		p.t.Fatalf("%s has become %s", line(before), line(args))
	}
	p.look()
	return told(got)
}

func (p *trial) ask(args ...string) string {
	p.t.Helper()
	return p.askIn(0, args...)
}

// want asks a line of words, and says what is told.
func (p *trial) want(words string, want string) {
	p.t.Helper()
	p.wantWords(want, split(words)...)
}

func (p *trial) wantWords(want string, args ...string) {
	p.t.Helper()
	if got := p.ask(args...); got != want {
		p.t.Fatalf("%s: %s; want %s", line(args), short(got), short(want))
	}
}

// holds says which members and scores, in turns and in order, a sorted set has; none, if the key is not there.
func (p *trial) holds(key, members string) {
	p.t.Helper()
	v, ok := p.sp.Peek(0, key)
	if !ok {
		if members != "" {
			p.t.Fatalf("%s is not there; want %s", key, members)
		}
		return
	}
	if got := strings.Join(turns(membersIn(v)), " "); v.Kind() != api.KindZset || got != members {
		p.t.Fatalf("%s is of the kind %d, and holds %s; want %s", key, v.Kind(), got, members)
	}
}

// encoding says how a key's value is kept.
func (p *trial) encoding(key, want string) {
	p.t.Helper()
	v, ok := p.sp.Peek(0, key)
	if !ok || v.Encoding() != want {
		p.t.Fatalf("%s is there: %v; want it as %s", key, ok, want)
	}
}

// due says when a key expires; 0, if it is not there.
func (p *trial) due(key string, want int) {
	p.t.Helper()
	if at, _ := p.sp.Expiry(0, key); at != want {
		p.t.Fatalf("%s expires at %d; want %d", key, at, want)
	}
}

// refuses asks a line of words that ends with an error, by which nothing but uses changes.
func (p *trial) refuses(words string, want string) {
	p.t.Helper()
	p.refusesWords(want, split(words)...)
}

func (p *trial) refusesWords(want string, args ...string) {
	p.t.Helper()
	p.keeps("-"+want, args...)
}

// keeps asks words that change nothing but uses.
func (p *trial) keeps(want string, args ...string) {
	p.t.Helper()
	before := p.unused()
	p.wantWords(want, args...)
	if got := p.unused(); got != before {
		p.t.Fatalf("%s changed\n%s\ninto\n%s", line(args), before, got)
	}
}

// unused is all that can be seen of all keys, but for their uses.
func (p *trial) unused() string {
	var b strings.Builder
	for db := range p.sp.Config().Spaces {
		for _, key := range p.sp.Keys(db) {
			s := seenIn(p.sp, db, key)
			s.idle = 0
			v, _ := p.sp.Peek(db, key)
			fmt.Fprintf(&b, "%d %s: %v %s\n", db, short(key), s, v.Encoding())
		}
	}
	return b.String()
}

// mix gives numbers that look like chance.
type mix uint64

func (m *mix) below(n int) int {
	x := uint64(*m)
	x ^= x << 13
	x ^= x >> 7
	x ^= x << 17
	*m = mix(x)
	return int((x >> 11) % uint64(n))
}

func pick[T any](m *mix, list ...T) T { return list[m.below(len(list))] }

// split are the words of a line.
func split(line string) []string {
	args, ok := resp.Split(line)
	if !ok {
		panic(line)
	}
	return args
}
