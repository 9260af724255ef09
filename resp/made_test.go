package resp

import (
	"fmt"
	"math"
	"slices"
	"strings"
	"sync"
	"testing"
	"unsafe"

	"cistern/api"
)

// TestP12_6Command: the bytes of requests.
func TestP12_6Command(t *testing.T) {
	for want, words := range map[string][]string{
		"":                               nil,
		"*1\r\n$0\r\n\r\n":               {""},
		"*1\r\n$4\r\nPING\r\n":           {"PING"},
		"*2\r\n$3\r\nGET\r\n$1\r\na\r\n": {"GET", "a"},
		"*3\r\n$0\r\n\r\n$2\r\n\r\n\r\n$0\r\n\r\n": {"", "\r\n", ""},
		"*1\r\n$9\r\n*1\r\n$1\r\na\r\n":            {"*1\r\n$1\r\na"},
	} {
		if got := Command(words...); got != want {
			t.Errorf("Command(%q) = %q, want %q", words, got, want)
		}
	}
	if got := Command([]string{}...); got != "" {
		t.Errorf("no words: %q", got)
	}
	var every []byte
	var all []string
	for b := range 256 {
		every = append(every, byte(b))
		all = append(all, string([]byte{byte(b)}))
	}
	for _, words := range [][]string{{""}, {string(every)}, all, {"SET", "", string(every), "*1\r\n"}, slices.Repeat([]string{"x", ""}, 30)} {
		s := Command(words...)
		if l := New().Feed(s); len(l) != 1 || l[0].Err != "" || !slices.Equal(l[0].Args, words) {
			t.Errorf("Command(%q): %q", words, l)
		}
		p := New()
		for i := range len(s) {
			l := p.Feed(s[i : i+1])
			if last := i == len(s)-1; len(l) != 0 != last || last && !slices.Equal(l[0].Args, words) {
				t.Fatalf("Command(%q), byte %d: %q", words, i, l)
			}
		}
	}
}

// TestP12_6Mixed: Commands one behind the other, cut anywhere.
func TestP12_6Mixed(t *testing.T) {
	t.Parallel()
	m := mix(6)
	for range 4000 {
		var want, got []api.Request
		all := ""
		for range m.below(6) {
			var words []string
			for range m.below(5) {
				words = append(words, m.word())
			}
			all += Command(words...)
			if len(words) > 0 {
				want = append(want, api.Request{Args: words})
			}
		}
		p := New()
		for rest := all; rest != ""; {
			n := 1 + m.below(min(len(rest), 50))
			got = append(got, p.Feed(rest[:n])...)
			rest = rest[n:]
		}
		if !requestsEqual(got, want) || p.Held() != 0 {
			t.Fatalf("%q: %q, want %q", all, got, want)
		}
	}
}

// TestP12_6Bounds: the longest words, the most bytes and the most words of a request.
func TestP12_6Bounds(t *testing.T) {
	t.Parallel()
	word := strings.Repeat("x", api.MaxElement)
	for _, words := range [][]string{{word}, slices.Repeat([]string{word}, api.MaxRequest/api.MaxElement), slices.Repeat([]string{""}, api.MaxArgs)} {
		s := Command(words...)
		i := len(s) / 3
		p := New()
		if l := append(p.Feed(s[:i]), p.Feed(s[i:])...); len(l) != 1 || l[0].Err != "" || !slices.Equal(l[0].Args, words) {
			t.Errorf("%d words: %d requests", len(words), len(l))
		}
	}
}

// TestP12_7Made: the replies by their kinds.
func TestP12_7Made(t *testing.T) {
	check := func(got, want api.Reply) {
		t.Helper()
		if !repliesEqual(got, want) {
			t.Errorf("%v, want %v", got, want)
		}
	}
	for _, text := range []string{"", "OK", "a\r\nb", "\x00\xff", strings.Repeat("x", api.MaxElement+1)} {
		check(Status(text), api.Reply{Kind: api.ReplyStatus, Text: text})
		check(Error(text), api.Reply{Kind: api.ReplyError, Text: text})
		check(Bulk(text), api.Reply{Kind: api.ReplyBulk, Text: text})
		check(Texts(text), api.Reply{Kind: api.ReplyArray, List: []api.Reply{{Kind: api.ReplyBulk, Text: text}}})
	}
	for _, n := range []int{0, 1, -1, math.MaxInt, math.MinInt} {
		check(Int(n), api.Reply{Kind: api.ReplyInt, N: n})
	}
	check(Null(), api.Reply{})
	check(Array(), api.Reply{Kind: api.ReplyArray})
	check(Array([]api.Reply{}...), api.Reply{Kind: api.ReplyArray})
	check(Texts(), api.Reply{Kind: api.ReplyArray})
	check(Texts("b", "", "a", "b"), api.Reply{Kind: api.ReplyArray, List: []api.Reply{Bulk("b"), Bulk(""), Bulk("a"), Bulk("b")}})
	odd := []api.Reply{{Kind: 99, Text: "t", N: 3}, {Kind: api.ReplyNone}, {Kind: api.ReplyInt, Text: "x", List: []api.Reply{{N: 5}}}, {Kind: api.ReplyMap, List: []api.Reply{Int(1)}}}
	check(Array(odd...), api.Reply{Kind: api.ReplyArray, List: odd})
	check(Array(odd[0]), api.Reply{Kind: api.ReplyArray, List: odd[:1]})
	for _, deep := range []int{32, 33, 1 << 16} {
		r := Array(nested(api.ReplyArray, deep-1, Int(7)))
		for range deep {
			if r.Kind != api.ReplyArray || len(r.List) != 1 {
				t.Fatalf("%d deep: %v", deep, r.Kind)
			}
			r = r.List[0]
		}
		check(r, Int(7))
	}
	list := make([]string, api.MaxCount)
	if r := Texts(list...); len(r.List) != len(list) {
		t.Errorf("%d texts", len(r.List))
	}
}

// TestP12_7Fault: every Errno that the chapter names, and others.
func TestP12_7Fault(t *testing.T) {
	named := map[api.Errno]string{
		api.ErrKind:    "WRONGTYPE Operation against a key holding the wrong kind of value",
		api.ErrLong:    "ERR value is too large",
		api.ErrFull:    "ERR too many keys",
		api.ErrNumber:  "ERR value is not an integer or out of range",
		api.ErrBound:   "ERR min or max is not valid",
		api.ErrNone:    "ERR no such key",
		api.ErrArg:     "ERR syntax error",
		api.ErrValue:   "ERR Bad data format",
		api.ErrPayload: "ERR Bad data format",
		api.ErrIO:      "ERR the file system failed",
	}
	for e := api.Errno(-300); e < 300; e++ {
		want := api.Reply{Kind: api.ReplyError, Text: named[e]}
		if e == api.OK {
			want = api.Reply{Kind: api.ReplyStatus, Text: "OK"}
		} else if want.Text == "" {
			want.Text = fmt.Sprintf("ERR error %d", int(e))
		}
		if got := Fault(e); !repliesEqual(got, want) {
			t.Errorf("Fault(%d) = %v, want %v", e, got, want)
		}
	}
	for e, want := range map[api.Errno]string{math.MaxInt: "ERR error 9223372036854775807", math.MinInt: "ERR error -9223372036854775808", api.ErrShort: "ERR error 20", api.ErrFrame: "ERR error 120"} {
		if got := Fault(e); got.Kind != api.ReplyError || got.Text != want {
			t.Errorf("Fault(%d) = %v, want %s", e, got, want)
		}
	}
}

// spoil writes all over a list, its spare room too.
func spoil[T any](list []T, with T) {
	list = list[:cap(list)]
	for i := range list {
		list[i] = with
	}
}

// spoilReply writes all over the lists of a reply, the inmost first.
func spoilReply(r api.Reply) {
	for _, x := range r.List {
		spoilReply(x)
	}
	spoil(r.List, api.Reply{Kind: 77, Text: "spoilt"})
}

func lend(s string) (string, func()) {
	room := []byte(s)
	return unsafe.String(unsafe.SliceData(room), len(room)), func() {
		for i := range room {
			room[i] = '!'
		}
	}
}

// TestP2FeedAlone: lists that are told are their caller's, and a piece is not kept.
func TestP2FeedAlone(t *testing.T) {
	m := mix(9)
	for range 3000 {
		all := m.stream()
		p := New()
		var got []api.Request
		for rest := all; rest != ""; {
			n := 1 + m.below(min(len(rest), 30))
			piece, done := lend(rest[:n])
			list := p.Feed(piece)
			done()
			for _, r := range list {
				got = append(got, api.Request{Args: slices.Clone(r.Args), Err: r.Err})
				spoil(r.Args, "spoilt")
			}
			spoil(list, api.Request{Err: "spoilt"})
			rest = rest[n:]
		}
		if want, held := modelFeed(all); !requestsEqual(got, want) || p.Held() != held {
			t.Fatalf("%q: %q, want %q", all, got, want)
		}
	}
}

// TestP2TwoParsers: what one is fed is not seen by another.
func TestP2TwoParsers(t *testing.T) {
	a, b := New(), New()
	a.Feed("*2\r\n$1\r\na\r\n")
	b.Feed("x ")
	if a.Held() != 11 || b.Held() != 2 {
		t.Errorf("Held %d and %d", a.Held(), b.Held())
	}
	b.Feed("'")
	if l := b.Feed("\n"); len(l) != 1 || l[0].Err != wrongQuotes {
		t.Errorf("%q", l)
	}
	if l := a.Feed("$1\r\nb\r\n"); !requestsEqual(l, []api.Request{{Args: []string{"a", "b"}}}) {
		t.Errorf("%q", l)
	}
	var wait sync.WaitGroup
	for i := range 8 {
		wait.Go(func() {
			m := mix(i + 1)
			for range 200 {
				all := m.stream()
				p := New()
				got := append(p.Feed(all[:len(all)/2]), p.Feed(all[len(all)/2:])...)
				if want, held := modelFeed(all); !requestsEqual(got, want) || p.Held() != held {
					t.Errorf("%q: %q, want %q", all, got, want)
				}
				r := m.reply(3, true)
				s, _ := Encode(r, 3)
				if x, _, err := Decode(s); !repliesEqual(r, x) || err != api.OK {
					t.Errorf("%q: %v", s, x)
				}
			}
		})
	}
	wait.Wait()
}

// TestP2TextsAlone: no text that is told lies in one that was handed in.
func TestP2TextsAlone(t *testing.T) {
	text, done := lend("a text")
	replies := []api.Reply{Status(text), Error(text), Bulk(text), Texts(text, text), Array(api.Reply{Kind: api.ReplyBulk, Text: text}), Array(kindly(api.ReplySet, api.Reply{Kind: api.ReplyBulk, Text: text}))}
	var bytes []string
	for _, r := range []api.Reply{{Kind: api.ReplyStatus, Text: text}, {Kind: api.ReplyBulk, Text: text}} {
		s, _ := Encode(r, 2)
		bytes = append(bytes, s)
	}
	command := Command(text)
	words, _ := Split(text + " '" + text + "'")
	whole, back := lend("*3\r\n+a text\r\n-a text\r\n$6\r\na text\r\n")
	r, _, _ := Decode(whole)
	line, lined := lend("a text 'a text' \"a text\"")
	split, _ := Split(line)
	done()
	back()
	lined()
	var texts func(r api.Reply)
	texts = func(r api.Reply) {
		if len(r.List) == 0 && r.Text != "a text" {
			t.Errorf("a text that was handed in is kept: %v", r)
		}
		for _, x := range r.List {
			texts(x)
		}
	}
	for _, r := range append(replies, r) {
		texts(r)
	}
	if !slices.Equal(bytes, []string{"+a text\r\n", "$6\r\na text\r\n"}) || command != "*1\r\n$6\r\na text\r\n" {
		t.Errorf("%q, %q", bytes, command)
	}
	if !slices.Equal(words, []string{"a", "text", "a text"}) || !slices.Equal(split, []string{"a", "text", "a text", "a text"}) {
		t.Errorf("%q, %q", words, split)
	}
}

// TestP2ListsAlone: lists that are handed in stay as they are and are not kept; those that are told are their caller's, each for itself.
func TestP2ListsAlone(t *testing.T) {
	fresh := func() []api.Reply {
		inner := []api.Reply{Int(1), Bulk("x")}
		return []api.Reply{kindly(api.ReplyArray, inner...), kindly(api.ReplySet, inner...), kindly(api.ReplyMap, kindly(api.ReplyPush, inner...), Null())}
	}
	want := api.Reply{Kind: api.ReplyArray, List: fresh()}
	given := fresh()
	r := Array(given...)
	spoilReply(r)
	if !repliesEqual(kindly(api.ReplyArray, given...), want) {
		t.Errorf("what was handed in is %v now", given)
	}
	r = Array(given...)
	spoilReply(kindly(api.ReplyArray, given...))
	if !repliesEqual(r, want) {
		t.Errorf("what was told is %v now", r)
	}
	// The lists of one answer: the same list stands in the argument several times.
	r = Array(fresh()...)
	spoilReply(r.List[0])
	if !repliesEqual(r.List[1], want.List[1]) || !repliesEqual(r.List[2], want.List[2]) {
		t.Errorf("another list is %v now", r)
	}
	room := make([]api.Reply, 2, 8)
	r = Array(room...)
	spoil(r.List, Int(5))
	if !repliesEqual(kindly(api.ReplyArray, room[:8]...), kindly(api.ReplyArray, make([]api.Reply, 8)...)) {
		t.Errorf("the room of what was handed in is %v now", room[:8])
	}
	words := []string{"a", "b"}
	made := Texts(words...)
	Command(words...)
	spoil(made.List, Int(5))
	if !slices.Equal(words, []string{"a", "b"}) {
		t.Errorf("the words are %q now", words)
	}
	given = fresh()
	for proto := 2; proto < 4; proto++ {
		Encode(kindly(api.ReplyArray, given...), proto)
	}
	if !repliesEqual(kindly(api.ReplyArray, given...), want) {
		t.Errorf("what was encoded is %v now", given)
	}
	s, _ := Encode(want, 3)
	one, _, _ := Decode(s)
	other, _, _ := Decode(s)
	spoilReply(one.List[0])
	if !repliesEqual(one.List[1], want.List[1]) || !repliesEqual(other, want) {
		t.Errorf("what was decoded is %v, %v now", one, other)
	}
	l, _ := Split("a b")
	spoil(l, "spoilt")
	if l, _ := Split("a b"); !slices.Equal(l, []string{"a", "b"}) {
		t.Errorf("%q", l)
	}
}
