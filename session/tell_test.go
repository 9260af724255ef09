package session

import (
	"math"
	"strings"
	"testing"

	"cistern/api"
	"cistern/resp"
)

// wordings are replies with their bytes in both protocols.
func wordings() []struct {
	reply      api.Reply
	two, three string
} {
	return []struct {
		reply      api.Reply
		two, three string
	}{
		{resp.Status("OK"), "+OK\r\n", "+OK\r\n"},
		{resp.Error("ERR a\r\nb"), "-ERR a  b\r\n", "-ERR a  b\r\n"},
		{resp.Int(-12), ":-12\r\n", ":-12\r\n"},
		{resp.Bulk("a\r\n\x00"), "$4\r\na\r\n\x00\r\n", "$4\r\na\r\n\x00\r\n"},
		{resp.Bulk(""), "$0\r\n\r\n", "$0\r\n\r\n"},
		{resp.Null(), "$-1\r\n", "_\r\n"},
		{api.Reply{Kind: api.ReplyNulls}, "*-1\r\n", "_\r\n"},
		{resp.Array(), "*0\r\n", "*0\r\n"},
		{resp.Array(resp.Int(1), resp.Null()), "*2\r\n:1\r\n$-1\r\n", "*2\r\n:1\r\n_\r\n"},
		{api.Reply{Kind: api.ReplyMap, List: []api.Reply{resp.Bulk("a"), resp.Int(1)}}, "*2\r\n$1\r\na\r\n:1\r\n", "%1\r\n$1\r\na\r\n:1\r\n"},
		{api.Reply{Kind: api.ReplySet, List: []api.Reply{resp.Bulk("a")}}, "*1\r\n$1\r\na\r\n", "~1\r\n$1\r\na\r\n"},
		{api.Reply{Kind: api.ReplyPush, List: []api.Reply{resp.Bulk("a")}}, "*1\r\n$1\r\na\r\n", ">1\r\n$1\r\na\r\n"},
		{api.Reply{Kind: api.ReplyBool, N: 1}, ":1\r\n", "#t\r\n"},
		{api.Reply{Kind: api.ReplyBool}, ":0\r\n", "#f\r\n"},
		{api.Reply{Kind: api.ReplyNone}, "", ""},
	}
}

// unwritten are replies that can't be encoded.
func unwritten() []api.Reply {
	deep := resp.Int(1)
	for range 33 {
		deep = api.Reply{Kind: api.ReplyArray, List: []api.Reply{deep}}
	}
	return []api.Reply{
		{Kind: -1}, {Kind: 12}, {Kind: math.MaxInt},
		{Kind: api.ReplyMap, List: []api.Reply{resp.Int(1)}},
		{Kind: api.ReplyArray, List: []api.Reply{resp.Int(1), {Kind: api.ReplyNone}}},
		{Kind: api.ReplyArray, List: []api.Reply{resp.Int(1), {Kind: 77}}},
		deep,
	}
}

func TestSE3Tell(t *testing.T) {
	for _, c := range wordings() {
		for proto, want := range map[int]string{2: c.two, 3: c.three} {
			x := newTrial(t)
			if proto == 3 {
				x.do("HELLO", "3")
			}
			if err := x.tell(c.reply); err != api.OK || x.s.Waits() != len(want) {
				t.Errorf("Tell(%s): error %d, %d bytes wait", told(c.reply), err, x.s.Waits())
			}
			x.tell(resp.Int(7))
			if got := x.drain(math.MaxInt); got != want+":7\r\n" {
				t.Errorf("Tell(%s) by protocol %d: %q, want %q", told(c.reply), proto, got, want)
			}
		}
	}
}

// TestSE3Unwritten: a reply that can't be written changes nothing, and closes nothing.
func TestSE3Unwritten(t *testing.T) {
	for _, proto := range []string{"2", "3"} {
		x := newTrial(t)
		x.do("HELLO", proto)
		x.tell(resp.Int(1))
		for _, r := range unwritten() {
			x.unchanged(func() {
				if err := x.tell(r); err != api.ErrArg {
					t.Errorf("Tell(%s): error %d", told(r), err)
				}
			})
		}
		x.tell(resp.Int(2))
		if got := x.drain(99); got != ":1\r\n:2\r\n" {
			t.Errorf("%q waited", got)
		}
	}
}

func TestSE3Closed(t *testing.T) {
	x := newTrial(t)
	x.tell(resp.Status("ahead"))
	x.close()
	for _, c := range wordings() {
		x.unchanged(func() {
			if err := x.tell(c.reply); err != api.ErrSession {
				t.Errorf("Tell(%s): error %d", told(c.reply), err)
			}
		})
	}
	for _, r := range unwritten() {
		if err := x.tell(r); err != api.ErrSession {
			t.Errorf("Tell(%s): error %d", told(r), err)
		}
	}
	x.close()
	if got := x.drain(3); got != "+ah" || x.s.Waits() != 5 {
		t.Errorf("%q, %d wait", got, x.s.Waits())
	}
	if got := x.drain(9); got != "ead\r\n" || x.s.Waits() != 0 || x.drain(9) != "" {
		t.Errorf("%q, %d wait", got, x.s.Waits())
	}
}

func TestSE3Drain(t *testing.T) {
	x := newTrial(t)
	for _, n := range []int{math.MinInt, -1, 0, 1, math.MaxInt} {
		if got := x.drain(n); got != "" {
			t.Errorf("Drain(%d) of nothing: %q", n, got)
		}
	}
	x.tell(resp.Bulk("abc"))
	all := "$3\r\nabc\r\n"
	for _, n := range []int{math.MinInt, -2, -1, 0} {
		if got := x.drain(n); got != "" || x.s.Waits() != len(all) {
			t.Errorf("Drain(%d): %q, %d wait", n, got, x.s.Waits())
		}
	}
	for i, n := range []int{1, 2, 1} {
		want := []string{"$", "3\r", "\n"}[i]
		if got := x.drain(n); got != want {
			t.Errorf("Drain(%d): %q, want %q", n, got, want)
		}
	}
	if got := x.drain(x.s.Waits()); got != "abc\r\n" || x.s.Waits() != 0 {
		t.Errorf("Drain of as many as wait: %q, %d wait", got, x.s.Waits())
	}
	x.tell(resp.Int(1))
	if got := x.drain(x.s.Waits() + 1); got != ":1\r\n" || x.s.Waits() != 0 {
		t.Errorf("Drain of one more: %q, %d wait", got, x.s.Waits())
	}
	x.tell(resp.Int(2))
	if got := x.drain(math.MaxInt); got != ":2\r\n" {
		t.Errorf("Drain of all: %q", got)
	}
}

// filled is a session for which so many bytes wait, 3 at least.
func filled(t *testing.T, n int) *Session {
	t.Helper()
	s, _ := New(1)
	if err := s.Tell(resp.Status(strings.Repeat("x", n-3))); err != api.OK || s.Waits() != n {
		t.Fatalf("error %d, %s", err, seen(s))
	}
	return s
}

func TestSE3Full(t *testing.T) {
	t.Parallel()
	for _, c := range []struct {
		wait  int // how many bytes wait
		proto string
		reply api.Reply
		want  api.Errno
	}{
		{api.MaxQueue - 4, "2", resp.Int(1), api.OK},
		{api.MaxQueue - 4, "2", resp.Int(12), api.ErrFull},
		{api.MaxQueue - 5, "2", resp.Null(), api.OK},
		{api.MaxQueue - 4, "2", resp.Null(), api.ErrFull},
		{api.MaxQueue - 3, "3", resp.Null(), api.OK},
		{api.MaxQueue - 2, "3", resp.Null(), api.ErrFull},
		{api.MaxQueue, "2", api.Reply{Kind: api.ReplyNone}, api.OK},
		{api.MaxQueue, "2", api.Reply{Kind: 99}, api.ErrArg},
		{api.MaxQueue, "2", resp.Status(""), api.ErrFull},
	} {
		s := filled(t, c.wait)
		s.Do(newSpace(), []string{"HELLO", c.proto}, nil)
		if s.Waits() != c.wait || s.Closed() {
			t.Fatalf("%s", seen(s))
		}
		if err := s.Tell(c.reply); err != c.want || s.Closed() != (c.want == api.ErrFull) {
			t.Errorf("Tell(%s) where %d wait: error %d, want %d; closed %v", told(c.reply), c.wait, err, c.want, s.Closed())
		}
		if c.want == api.OK && s.Waits() != api.MaxQueue || c.want != api.OK && s.Waits() != c.wait {
			t.Errorf("Tell(%s) where %d wait: %d wait now", told(c.reply), c.wait, s.Waits())
		}
		if c.want == api.ErrFull {
			if err := s.Tell(api.Reply{Kind: api.ReplyNone}); err != api.ErrSession {
				t.Errorf("behind ErrFull: error %d", err)
			}
			if got := s.Drain(math.MaxInt); len(got) != c.wait || !strings.HasPrefix(got, "+xx") {
				t.Errorf("%d bytes waited, want %d", len(got), c.wait)
			}
		}
	}
}

// TestSE3OneReply: one reply may be all that waits, and one that is a byte longer may not.
func TestSE3OneReply(t *testing.T) {
	t.Parallel()
	text := strings.Repeat("y", api.MaxQueue-2)
	s, _ := New(1)
	if err := s.Tell(resp.Status(text)); err != api.ErrFull || !s.Closed() || s.Waits() != 0 {
		t.Errorf("error %d, %s", err, seen(s))
	}
	s, _ = New(1)
	if err := s.Tell(resp.Status(text[1:])); err != api.OK || s.Closed() || s.Waits() != api.MaxQueue {
		t.Errorf("error %d, %s", err, seen(s))
	}
	// What is taken makes room for as much again.
	if got := s.Drain(4); got != "+yyy" {
		t.Errorf("%q", got)
	}
	if err := s.Tell(resp.Int(1)); err != api.OK || s.Waits() != api.MaxQueue {
		t.Errorf("error %d, %s", err, seen(s))
	}
	if s.Drain(1) != "y" || s.Tell(resp.Int(1)) != api.ErrFull || s.Waits() != api.MaxQueue-1 {
		t.Errorf("%s", seen(s))
	}
	if got := s.Drain(api.MaxQueue); got != text[5:]+"\r\n:1\r\n" || s.Waits() != 0 {
		t.Errorf("%d bytes waited", len(got))
	}
}

// TestSE3Pieces: many bytes taken one by one, while others come, are those that were told, and take no long time.
func TestSE3Pieces(t *testing.T) {
	t.Parallel()
	s, _ := New(1)
	text := strings.Repeat("0123456789abcdef", 1<<16)
	s.Tell(resp.Status(text))
	var got, want strings.Builder
	want.WriteString("+" + text + "\r\n")
	for i := range 1 << 19 {
		got.WriteString(s.Drain(1))
		if i%4 == 0 {
			s.Tell(resp.Int(i % 10))
			want.WriteString(":" + string(rune('0'+i%10)) + "\r\n")
		}
	}
	got.WriteString(s.Drain(math.MaxInt))
	if got.String() != want.String() {
		t.Error("other bytes than were told")
	}
}
