package session

import (
	"math"
	"strings"
	"testing"

	"cistern/api"
)

func TestSE1New(t *testing.T) {
	for _, id := range []int{math.MinInt, -8, -1, 0, 9, 10, 1 << 32, 1<<32 + 1, math.MaxInt} {
		if s, err := New(id); s != nil || err != api.ErrSession {
			t.Errorf("New(%d) = %v, error %d", id, s, err)
		}
	}
	for id := 1; id <= 8; id++ {
		s, err := New(id)
		if s == nil || err != api.OK {
			t.Fatalf("New(%d): error %d", id, err)
		}
		if got, want := seen(s), state(id, 0, 2, "", -1, 0, 0, 0, false); got != want {
			t.Errorf("New(%d): %s, want %s", id, got, want)
		}
	}
}

func TestSE1Listen(t *testing.T) {
	s, _ := New(1)
	for _, n := range []int{1, 0, 2, -1, 256, 257, math.MinInt, math.MaxInt, 3, 3} {
		s.Listen(n)
		if got, want := seen(s), state(1, 0, 2, "", -1, 0, max(n, 0), 0, false); got != want {
			t.Errorf("Listen(%d): %s, want %s", n, got, want)
		}
	}
	s.Close()
	s.Listen(5)
	if s.Listens() != 5 {
		t.Errorf("Listen of a closed one: %d", s.Listens())
	}
}

// name gives a name a session, and tells the error.
func name(t *testing.T, s *Session, text string, want api.Errno) {
	t.Helper()
	was := s.Name()
	if got := s.SetName(text); got != want {
		t.Errorf("SetName(%q): error %d, want %d", text, got, want)
	}
	if want == api.OK {
		was = text
	}
	if got, want := seen(s), state(s.Id(), 0, 2, was, -1, 0, 0, 0, s.Closed()); got != want {
		t.Errorf("behind SetName(%q): %s, want %s", text, got, want)
	}
}

func TestSE3NameBytes(t *testing.T) {
	s, _ := New(2)
	for b := range 256 {
		want := api.OK
		if b < 33 || b > 126 {
			want = api.ErrArg
		}
		for _, text := range []string{string([]byte{byte(b)}), string([]byte{byte(b), 'x'}), string([]byte{'x', byte(b)}), string([]byte{'x', byte(b), 'y'}), strings.Repeat("n", 63) + string([]byte{byte(b)})} {
			name(t, s, text, want)
		}
	}
}

func TestSE3NameLengths(t *testing.T) {
	s, _ := New(3)
	name(t, s, "first", api.OK)
	for n := range 200 {
		want := api.OK
		if n > 64 {
			want = api.ErrArg
		}
		name(t, s, strings.Repeat("~", n), want)
	}
	for _, long := range []string{strings.Repeat("!", 65), strings.Repeat("é", 32), strings.Repeat("x", 1<<20)} {
		name(t, s, "stays", api.OK)
		name(t, s, long, api.ErrArg)
		name(t, s, "", api.OK)
		name(t, s, long, api.ErrArg)
	}
	s.Close()
	name(t, s, "late", api.OK)
	name(t, s, "too late", api.ErrArg)
}

// TestSE1Apart: what one session keeps is none of another's.
func TestSE1Apart(t *testing.T) {
	a, b := newTrial(t), newTrial(t)
	for _, x := range []*trial{a, b} {
		x.unchanged(func() {})
	}
	before := seen(b.s)
	a.each("SELECT 1", "+OK", "WATCH a b", "+OK", "HELLO 3 SETNAME me", told(greeting(3, 7)), "MULTI", "+OK", "GET a", "+QUEUED")
	a.listen(4)
	a.s.Feed("*1\r\n$4\r\nPI")
	a.tell(api.Reply{Kind: api.ReplyInt, N: 5})
	a.close()
	if now := seen(b.s); now != before {
		t.Errorf("%s, was %s", now, before)
	}
	if got := b.s.Feed("NG\r\n"); len(got) != 1 || strings.Join(got[0].Args, " ") != "NG" {
		t.Errorf("Feed = %q", got)
	}
}
