package session

import (
	"fmt"
	"math"
	"strconv"
	"strings"
	"testing"

	"cistern/api"
	"cistern/resp"
)

// anyWords are a request as if by chance: commands of the session's own and others, right and wrong ones.
func anyWords(m *mix) []string {
	key := of(m, "a", "b", "c", "d")
	words := of(m,
		"SET "+key+" "+strconv.Itoa(m.below(9)), "INCR "+key, "GET "+key, "DEL "+key, "APPEND "+key+" x", "RPUSH "+key+" y", "LPOP "+key,
		"SET "+key+" 1 PX "+strconv.Itoa(1+m.below(40)), "PEXPIRE "+key+" 20", "MSET a 1 b 2", "RENAME a b", "MOVE "+key+" 1", "FLUSHDB", "SWAPDB 0 1",
		"MULTI", "MULTI", "MULTI", "EXEC", "EXEC", "EXEC", "EXEC", "DISCARD", "WATCH "+key, "WATCH a b", "UNWATCH", "SELECT "+strconv.Itoa(m.below(4)), "SELECT x",
		"HELLO", "HELLO 2", "HELLO 3", "HELLO 3", "HELLO 3 SETNAME n"+strconv.Itoa(m.below(9)), "HELLO 5", "HELLO 2 FOO", "RESET", "PING", "PING x", "ECHO x",
		"UNSUBSCRIBE", "CLIENT name", "INFO")
	if m.below(60) == 0 {
		words = of(m, "SUBSCRIBE x", "FLY", "GET", "GET a b", "MULTI x", "WATCH", "")
	}
	list := strings.Fields(words)
	if len(list) > 0 && m.below(3) == 0 {
		list[0] = of(m, letters(list[0])...)
	}
	return list
}

// anyOther is what another client may do.
func anyOther(m *mix) string {
	return of(m, "SET a 1", "SET b 2", "DEL a", "DEL c", "INCR d", "GET a", "TTL b", "PEXPIRE a 30", "FLUSHALL", "SWAPDB 0 1", "RPUSH c x", "LPOP c")
}

// TestMixed: sessions as the model has them, whatever comes in whatever order.
func TestMixed(t *testing.T) {
	t.Parallel()
	transactions, refusals, closings := 0, 0, 0
	for seed := range 400 {
		m := mix(seed*7 + 3)
		x := newTrial(t)
		var want, got strings.Builder
		tell := func(r api.Reply) {
			text, _ := resp.Encode(r, x.s.Proto())
			if x.tell(r) == api.OK {
				want.WriteString(text)
			}
		}
		for range 250 {
			switch m.below(12) {
			default:
				words := anyWords(&m)
				r := x.reply(words...)
				if len(words) > 0 && strings.EqualFold(words[0], "EXEC") {
					if r.Kind == api.ReplyArray && len(r.List) > 1 {
						transactions++
					}
					if r.Kind == api.ReplyNulls {
						refusals++
					}
				}
				if r.Kind != api.ReplyNone {
					tell(r)
				}
			case 0:
				x.other(m.below(3), anyOther(&m))
			case 1:
				x.advance(m.below(15))
			case 2:
				got.WriteString(x.drain(m.below(60) - 5))
			case 3:
				if m.below(3) == 0 {
					x.listen(of(&m, -1, 0, 0, 0, 0, 0, 1, 2))
				} else {
					tell(of(&m, resp.Null(), resp.Int(5), api.Reply{Kind: api.ReplyBool, N: 1}, api.Reply{Kind: 99}, api.Reply{Kind: api.ReplyPush, List: []api.Reply{resp.Bulk("message")}}))
				}
			}
			if m.below(1200) == 0 {
				x.close()
			}
			if m.below(1200) == 0 {
				x.do("QUIT")
			}
		}
		if x.s.Closed() {
			closings++
		}
		got.WriteString(x.drain(math.MaxInt))
		if got.String() != want.String() {
			t.Fatalf("seed %d: %d bytes were drained, %d told, or other ones", seed, got.Len(), want.Len())
		}
	}
	if transactions < 500 || refusals < 100 || closings < 50 || closings > 350 {
		t.Errorf("%d transactions, %d that were refused, %d closings", transactions, refusals, closings)
	}
}

// held is what a space holds, without marks.
func held(x *trial) string {
	var out []string
	for _, part := range strings.Split(content(x.space), "; ") {
		text, _, _ := strings.Cut(part, " mark ")
		out = append(out, text)
	}
	return strings.Join(out, "; ")
}

// TestSE5: what is queued is done as if each came alone, one after the other and behind what others did, or not at all; till EXEC nothing changes.
func TestSE5(t *testing.T) {
	t.Parallel()
	done, not := 0, 0
	for seed := range 1500 {
		m := mix(seed*11 + 5)
		x, plain := newTrial(t), newTrial(t)
		both := func(db int, words string) {
			x.other(db, words)
			plain.other(db, words)
		}
		for range m.below(6) {
			both(m.below(3), anyOther(&m))
		}
		db := strconv.Itoa(m.below(3))
		x.do("SELECT", db)
		plain.do("SELECT", db)
		watched := of(&m, "a", "b", "none")
		if m.below(2) == 0 {
			x.do("WATCH", watched)
		}
		mark := x.space.Mark(x.s.Db(), watched)
		x.do("MULTI")
		var queue []string
		broken := false
		for range m.below(12) {
			words := of(&m, "INCR a", "APPEND b x", "SET c 1 PX 20", "GET a", "LPUSH d x", "RPOP d", "DEL a", "SELECT 1", "SELECT 0", "SELECT 9", "MOVE b 2", "RENAME c d", "FLUSHDB", "PING", "ECHO x", "UNWATCH")
			x.unchangedSpace(func() { x.each(words, "+QUEUED") })
			queue = append(queue, words)
			if m.below(3) == 0 {
				both(m.below(3), anyOther(&m))
			}
			if m.below(40) == 0 {
				x.unchangedSpace(func() { x.do("FLY") })
				broken = true
			}
		}
		changed := x.s.Watched() > 0 && x.space.Mark(x.s.Db(), watched) != mark
		before := held(x)
		got := x.reply("EXEC")
		if broken || changed {
			not++
			if got.Kind == api.ReplyArray || held(x) != before || len(x.calls) != 0 {
				t.Fatalf("seed %d: %s; the space holds %s, was %s", seed, told(got), held(x), before)
			}
			continue
		}
		done++
		var want []string
		for _, words := range queue {
			want = append(want, plain.do(strings.Fields(words)...))
		}
		if told(got) != fmt.Sprintf("{5 \"\" 0 [%s]}", strings.Join(want, " ")) || held(x) != held(plain) || x.s.Db() != plain.s.Db() {
			t.Fatalf("seed %d: %v: %s, want %v; the space holds %s, want %s", seed, queue, told(got), want, held(x), held(plain))
		}
	}
	if done < 500 || not < 200 {
		t.Errorf("%d done, %d not", done, not)
	}
}

// TestSE6: what is drained is what was told, each reply in the protocol of its time, however it is cut.
func TestSE6(t *testing.T) {
	t.Parallel()
	for seed := range 300 {
		m := mix(seed*13 + 1)
		s, _ := New(1)
		var want, got string
		for range 200 {
			switch m.below(6) {
			case 0:
				s.Do(newSpace(), []string{"HELLO", of(&m, "2", "3")}, nil)
			case 1:
				got += s.Drain(of(&m, -1, 0, 1, 2, m.below(100)))
			case 2:
				if err := s.Tell(of(&m, unwritten()...)); err != api.ErrArg {
					t.Fatalf("error %d", err)
				}
			default:
				c := of(&m, wordings()...)
				if err := s.Tell(c.reply); err != api.OK {
					t.Fatalf("error %d", err)
				}
				want += map[int]string{2: c.two, 3: c.three}[s.Proto()]
			}
			if s.Waits() != len(want)-len(got) || !strings.HasPrefix(want, got) {
				t.Fatalf("%d wait of %q, %q was drained", s.Waits(), want, got)
			}
		}
		// A closed session still hands out what waits.
		s.Close()
		for s.Waits() > 0 {
			got += s.Drain(1 + m.below(30))
		}
		if got != want {
			t.Fatalf("%q was drained, want %q", got, want)
		}
	}
}
