package session

import (
	"fmt"
	"slices"
	"strconv"
	"strings"
	"testing"

	"cistern/api"
	"cistern/keys"
	"cistern/keyspace"
	"cistern/lists"
	"cistern/resp"
	"cistern/table"
	"cistern/texts"
)

// mix gives numbers that look as if by chance, the same ones each time.
type mix uint64

func (m *mix) below(n int) int {
	*m ^= *m << 13
	*m ^= *m >> 7
	*m ^= *m << 17
	return int(uint64(*m) >> 1 % uint64(n))
}

// of is one of the given.
func of[T any](m *mix, list ...T) T { return list[m.below(len(list))] }

// letters are a name in small, capital and mixed letters.
func letters(name string) []string {
	mixed := []byte(strings.ToLower(name))
	for i := range mixed {
		if i%2 == 0 && mixed[i] >= 'a' && mixed[i] <= 'z' {
			mixed[i] -= 'a' - 'A'
		}
	}
	return []string{strings.ToLower(name), strings.ToUpper(name), string(mixed)}
}

// newSpace is a space of three databases.
func newSpace() *keyspace.Space {
	limits := api.Thresholds{ListEntries: 4, ListBytes: 64, SetInts: 4, SetEntries: 4, SetBytes: 8, ZsetEntries: 4, ZsetBytes: 8, HashEntries: 4, HashBytes: 8}
	sp, err := keyspace.New(api.Config{Spaces: 3, Limits: limits})
	if err != api.OK {
		panic(err)
	}
	return sp
}

// content is all that a space holds, with all marks.
func content(sp *keyspace.Space) string {
	var out []string
	for db := range sp.Config().Spaces {
		for _, key := range sp.Keys(db) {
			v, _ := sp.Peek(db, key)
			expiry, _ := sp.Expiry(db, key)
			out = append(out, fmt.Sprintf("%d:%s=%s expires %d mark %d", db, key, v.Raw(), expiry, sp.Mark(db, key)))
		}
	}
	return strings.Join(out, "; ")
}

// told is a reply as text, with all its parts.
func told(r api.Reply) string {
	switch {
	case r.Kind == api.ReplyStatus && r.N == 0 && len(r.List) == 0:
		return "+" + r.Text
	case r.Kind == api.ReplyError && r.N == 0 && len(r.List) == 0:
		return "-" + r.Text
	case r.Kind == api.ReplyInt && r.Text == "" && len(r.List) == 0:
		return ":" + strconv.Itoa(r.N)
	case r.Kind == api.ReplyBulk && r.N == 0 && len(r.List) == 0:
		return strconv.Quote(r.Text)
	case r.Kind == api.ReplyNone && r.N == 0 && r.Text == "" && len(r.List) == 0:
		return "none"
	}
	var parts []string
	for _, x := range r.List {
		parts = append(parts, told(x))
	}
	return fmt.Sprintf("{%d %q %d [%s]}", r.Kind, r.Text, r.N, strings.Join(parts, " "))
}

// short cuts a text that nobody would read.
func short(s string) string {
	if len(s) > 300 {
		return s[:200] + fmt.Sprintf(".. (%d bytes)", len(s))
	}
	return s
}

// seen is all that can be seen of a session.
func seen(s *Session) string {
	return state(s.Id(), s.Db(), s.Proto(), s.Name(), s.Queued(), s.Watched(), s.Listens(), s.Waits(), s.Closed())
}

// client is what commands that are not the session's own change of it.
type client interface {
	SetName(name string) api.Errno
	Listen(n int)
	Listens() int
	Close()
}

// doer does what is not the session's own, and notes where and of which words it was asked for.
func doer(sp *keyspace.Space, c client, calls *[]string) func(db int, args []string) api.Reply {
	return func(db int, args []string) api.Reply {
		*calls = append(*calls, fmt.Sprintf("%d %q", db, args))
		name := table.Lower(args[0])
		switch name {
		case "subscribe", "psubscribe":
			c.Listen(c.Listens() + len(args) - 1)
			return api.Reply{Kind: api.ReplyNone}
		case "unsubscribe", "punsubscribe":
			c.Listen(0)
			return api.Reply{Kind: api.ReplyNone}
		case "client":
			if args[1] == "KILL" {
				c.Close()
				return resp.Int(1)
			}
			return resp.Fault(c.SetName(args[1]))
		case "shutdown":
			c.Close()
			return api.Reply{Kind: api.ReplyNone}
		}
		for _, layer := range []struct {
			names []string
			do    func(*keyspace.Space, int, []string) api.Reply
		}{{texts.Names(), texts.Do}, {lists.Names(), lists.Do}, {keys.Names(), keys.Do}} {
			if slices.Contains(layer.names, name) {
				return layer.do(sp, db, args)
			}
		}
		return resp.Texts(append([]string{"done", strconv.Itoa(db)}, args...)...)
	}
}

// trial is a session and its model, each with a space of its own, of which the one is always as the other.
type trial struct {
	t                testing.TB
	s                *Session
	m                *model
	space, twin      *keyspace.Space
	calls, twinCalls []string
	log              []string
}

func newTrial(t testing.TB) *trial {
	t.Helper()
	s, err := New(7)
	if err != api.OK {
		t.Fatalf("New(7): error %d", err)
	}
	return &trial{t: t, s: s, m: newModel(7), space: newSpace(), twin: newSpace()}
}

// fail tells what came before.
func (x *trial) fail(format string, args ...any) {
	x.t.Helper()
	x.t.Fatalf("%s: %s", short(strings.Join(x.log[max(0, len(x.log)-12):], "; ")), fmt.Sprintf(format, args...))
}

// alike holds all that can be seen of both.
func (x *trial) alike() {
	x.t.Helper()
	if a, b := seen(x.s), x.m.seen(); a != b {
		x.fail("%s, want %s", a, b)
	}
	if a, b := content(x.space), content(x.twin); a != b {
		x.fail("the space holds %s, want %s", a, b)
	}
	if !slices.Equal(x.calls, x.twinCalls) {
		x.fail("do was called for %v, want %v", x.calls, x.twinCalls)
	}
}

// do lets both do words, and holds what they answer and what is behind it.
func (x *trial) do(words ...string) string {
	x.t.Helper()
	return told(x.reply(words...))
}

func (x *trial) reply(words ...string) api.Reply {
	x.t.Helper()
	x.log = append(x.log, short(fmt.Sprintf("%q", words)))
	x.calls, x.twinCalls = nil, nil
	handed := slices.Clone(words)
	got := x.s.Do(x.space, handed, doer(x.space, x.s, &x.calls))
	want := x.m.Do(x.twin, words, doer(x.twin, x.m, &x.twinCalls))
	if a, b := told(got), told(want); a != b {
		x.fail("%s, want %s", short(a), short(b))
	}
	if !slices.Equal(handed, words) {
		x.fail("the words are %q now", handed)
	}
	x.alike()
	return got
}

// each does requests, of which the words are divided by blanks, and holds their answers: request and answer in turns.
func (x *trial) each(pairs ...string) {
	x.t.Helper()
	for i := 0; i < len(pairs); i += 2 {
		if got := x.do(strings.Fields(pairs[i])...); got != pairs[i+1] {
			x.fail("%s, want %s", short(got), pairs[i+1])
		}
	}
}

// other lets another client do words in a database of both spaces.
func (x *trial) other(db int, words string) {
	x.t.Helper()
	x.log = append(x.log, fmt.Sprintf("another one in %d: %s", db, words))
	var calls []string
	other, _ := New(1)
	a := doer(x.space, other, &calls)(db, strings.Fields(words))
	b := doer(x.twin, other, &calls)(db, strings.Fields(words))
	if told(a) != told(b) {
		x.fail("%s and %s", told(a), told(b))
	}
	x.alike()
}

// advance lets the clock of both spaces go on.
func (x *trial) advance(n int) {
	x.t.Helper()
	x.log = append(x.log, fmt.Sprintf("%d later", n))
	x.space.Advance(n)
	x.twin.Advance(n)
	x.alike()
}

func (x *trial) listen(n int) {
	x.t.Helper()
	x.log = append(x.log, fmt.Sprintf("Listen(%d)", n))
	x.s.Listen(n)
	x.m.Listen(n)
	x.alike()
}

func (x *trial) tell(r api.Reply) api.Errno {
	x.t.Helper()
	x.log = append(x.log, "Tell "+short(told(r)))
	got, want := x.s.Tell(r), x.m.Tell(r)
	if got != want {
		x.fail("error %d, want %d", got, want)
	}
	x.alike()
	return got
}

func (x *trial) drain(n int) string {
	x.t.Helper()
	x.log = append(x.log, fmt.Sprintf("Drain(%d)", n))
	got, want := x.s.Drain(n), x.m.Drain(n)
	if got != want {
		x.fail("%q, want %q", short(got), short(want))
	}
	x.alike()
	return got
}

func (x *trial) close() {
	x.t.Helper()
	x.log = append(x.log, "Close")
	x.s.Close()
	x.m.Close()
	x.alike()
}

// unchanged holds that a session and its space are as they were behind something.
func (x *trial) unchanged(what func()) {
	x.t.Helper()
	before, held := seen(x.s), content(x.space)
	what()
	if now := seen(x.s); now != before {
		x.fail("%s, was %s", now, before)
	}
	if now := content(x.space); now != held {
		x.fail("the space holds %s, was %s", now, held)
	}
}
