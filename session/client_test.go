package session

import (
	"math"
	"strings"
	"testing"

	"cistern/api"
	"cistern/resp"
)

// converse feeds a session pieces, lets it do each request that they are, tells it the replies, and gives all that was told.
func converse(pieces []string) string {
	s, _ := New(1)
	sp := newSpace()
	var calls []string
	for _, piece := range pieces {
		for _, r := range s.Feed(piece) {
			if r.Err != "" {
				s.Tell(resp.Error("ERR " + r.Err))
				s.Close()
				break
			}
			s.Tell(s.Do(sp, r.Args, doer(sp, s, &calls)))
		}
	}
	return s.Drain(math.MaxInt)
}

// TestP3: what a client is told are the replies to the requests that its bytes are, however they are cut.
func TestP3(t *testing.T) {
	for _, c := range []struct{ said, told string }{
		{"SET a 1\r\nINCR a\r\nLPUSH a x\r\nGET\r\n", "+OK\r\n:2\r\n-WRONGTYPE Operation against a key holding the wrong kind of value\r\n-ERR wrong number of arguments for 'get' command\r\n"},
		{"MULTI\r\nSET a 1\r\n*2\r\n$3\r\nGET\r\n$1\r\na\r\nEXEC\r\nGET a\r\n", "+OK\r\n+QUEUED\r\n+QUEUED\r\n*2\r\n+OK\r\n$1\r\n1\r\n$1\r\n1\r\n"},
		{"GET a\r\nHELLO 3 setname me\r\nGET a\r\nRESET\r\nGET a\r\n", "$-1\r\n%6\r\n$6\r\nserver\r\n$7\r\ncistern\r\n$7\r\nversion\r\n$1\r\n1\r\n$5\r\nproto\r\n:3\r\n$2\r\nid\r\n:1\r\n$4\r\nmode\r\n$10\r\nstandalone\r\n$4\r\nrole\r\n$6\r\nmaster\r\n_\r\n+RESET\r\n$-1\r\n"},
		{"WATCH a\r\nSET a 1\r\nMULTI\r\nPING\r\nEXEC\r\nSELECT 2\r\nGET a\r\n", "+OK\r\n+OK\r\n+OK\r\n+QUEUED\r\n*-1\r\n+OK\r\n$-1\r\n"},
		{"PING\r\nQUIT\r\nPING\r\nSET a 1\r\n", "+PONG\r\n+OK\r\n"},
		{"MULTI\r\nFLY\r\nEXEC\r\nECHO 'it''s'\r\nPING\r\n", "+OK\r\n-ERR unknown command 'FLY'\r\n-EXECABORT Transaction discarded because of previous errors.\r\n-ERR Protocol error: unbalanced quotes in request\r\n"},
	} {
		if got := converse([]string{c.said}); got != c.told {
			t.Errorf("%q: %q, want %q", c.said, got, c.told)
		}
		if got := converse(strings.Split(c.said, "")); got != c.told {
			t.Errorf("%q byte by byte: %q", c.said, got)
		}
		for i := range c.said {
			if got := converse([]string{c.said[:i], c.said[i:]}); got != c.told {
				t.Errorf("%q cut at %d: %q", c.said, i, got)
			}
		}
	}
}

// TestP1: any words are answered, and whatever comes of them can be told.
func TestP1(t *testing.T) {
	for seed := range 2000 {
		m := mix(seed*19 + 7)
		s, _ := New(1)
		sp := newSpace()
		var calls []string
		for range 30 {
			words := anyWords(&m)
			for i := range words {
				if m.below(4) == 0 {
					words[i] = of(&m, "", "\x00", "\xff\xfe", "'", strings.Repeat("x", 1+m.below(200)), "-9223372036854775808", "9223372036854775808", "\r\n")
				}
			}
			for range m.below(3) {
				words = append(words, of(&m, "", "SETNAME", "a", "2"))
			}
			if m.below(200) == 0 {
				s.Close()
			}
			closed := s.Closed()
			r := s.Do(sp, words, doer(sp, s, &calls))
			if closed && r.Kind != api.ReplyNone {
				t.Fatalf("%q of a closed one: %s", words, told(r))
			}
			if err := s.Tell(r); err != api.OK && !s.Closed() {
				t.Fatalf("%q: %s: error %d", words, told(r), err)
			}
			s.Drain(m.below(100) - 3)
			s.Listen(m.below(9) - 4)
			if s.Queued() > api.MaxQueued || s.Watched() > api.MaxWatched || s.Waits() > api.MaxQueue || len(s.Name()) > api.MaxName || s.Db() < 0 || s.Db() > 2 {
				t.Fatalf("%s", seen(s))
			}
		}
	}
}
