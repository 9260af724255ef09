package session

import (
	"fmt"
	"strings"
	"testing"

	"cistern/api"
	"cistern/resp"
)

// feedings are what clients may say.
func feedings() []string {
	return []string{
		"*2\r\n$3\r\nGET\r\n$1\r\na\r\n",
		"*1\r\n$4\r\nPING\r\nGET a\r\n*0\r\n\r\n set a \"b c\\x41\"\n*3\r\n$3\r\nSET\r\n$0\r\n\r\n$2\r\n\r\n\r\n",
		"MULTI\r\nSET a 1\r\nEXEC\r\nQUIT\r\nPING\r\n",
		"PING\r\n*1\r\n:1\r\nPING\r\n",
		"*x\r\nPING\r\n",
		"a \"b\nPING\n",
		"GET a\r\n*2\r\n$3\r\nGE",
		"",
	}
}

func requests(list []api.Request) string { return fmt.Sprintf("%q", list) }

// TestSE2Whole: Feed is the parser's, in one piece, in two, and byte by byte.
func TestSE2Whole(t *testing.T) {
	for _, text := range feedings() {
		want := requests(resp.New().Feed(text))
		cuts := [][]string{strings.Split(text, "")}
		for i := range len(text) + 1 {
			cuts = append(cuts, []string{text[:i], text[i:]})
		}
		for _, pieces := range cuts {
			s, _ := New(1)
			var got []api.Request
			for _, piece := range pieces {
				got = append(got, s.Feed(piece)...)
			}
			if requests(got) != want {
				t.Fatalf("Feed of %q: %s, want %s", pieces, requests(got), want)
			}
			if now := seen(s); now != state(1, 0, 2, "", -1, 0, 0, 0, false) {
				t.Fatalf("Feed of %q: %s", pieces, now)
			}
		}
	}
}

func TestSE2Said(t *testing.T) {
	s, _ := New(1)
	for _, c := range []struct{ chunk, want string }{
		{"*2\r\n$3\r\nGE", "[]"},
		{"T\r\n$1\r\na\r\nPING\r\n", `[{["GET" "a"] ""} {["PING"] ""}]`},
		{"", "[]"},
		{"*x\r\n", `[{[] "Protocol error: invalid multibulk length"}]`},
		{"PING\r\n", "[]"},
	} {
		if got := requests(s.Feed(c.chunk)); got != c.want {
			t.Errorf("Feed(%q) = %s, want %s", c.chunk, got, c.want)
		}
	}
	if s.Closed() {
		t.Error("a fault of the bytes has closed it")
	}
}

// TestSE2Closed: a closed session tells no requests, whatever came ahead of it.
func TestSE2Closed(t *testing.T) {
	closings := map[string]func(x *trial){
		"Close": func(x *trial) { x.close() },
		"QUIT": func(x *trial) {
			x.each("QUIT", "+OK")
			x.tell(resp.Status("OK"))
		},
	}
	for how, end := range closings {
		for _, ahead := range []string{"", "PI", "*1\r\n$4\r\nPI", "*x\r\n"} {
			x := newTrial(t)
			x.s.Feed(ahead)
			end(x)
			closedFeed(t, how+" behind "+ahead, x.s)
		}
	}
	s := filled(t, api.MaxQueue)
	s.Tell(resp.Int(1))
	closedFeed(t, "ErrFull", s)
}

func closedFeed(t *testing.T, how string, s *Session) {
	t.Helper()
	for _, chunk := range append(feedings(), "NG\r\n", "PING\r\n") {
		if got := s.Feed(chunk); len(got) != 0 {
			t.Errorf("%s: Feed(%q) = %s", how, chunk, requests(got))
		}
	}
	if !s.Closed() {
		t.Errorf("%s: not closed", how)
	}
}

// TestSE2Quit: till the answer to QUIT is told, bytes are requests.
func TestSE2Quit(t *testing.T) {
	x := newTrial(t)
	x.s.Feed("PI")
	x.each("QUIT", "+OK")
	if got := requests(x.s.Feed("NG\r\nGE")); got != `[{["PING"] ""}]` {
		t.Errorf("ahead of Tell: %s", got)
	}
	x.tell(resp.Status("OK"))
	closedFeed(t, "QUIT", x.s)
}

// TestSE2Do: Feed and Do do not hang on one another.
func TestSE2Do(t *testing.T) {
	x := newTrial(t)
	x.s.Feed("*2\r\n$3\r\nGET\r\n")
	x.each("MULTI", "+OK", "GET a", "+QUEUED", "RESET", "+RESET", "HELLO 3", told(greeting(3, 7)))
	if got := requests(x.s.Feed("$1\r\nb\r\n")); got != `[{["GET" "b"] ""}]` {
		t.Errorf("Feed = %s", got)
	}
}
