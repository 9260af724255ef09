package session

import (
	"math"
	"slices"
	"strings"
	"sync"
	"testing"
	"unsafe"

	"cistern/api"
	"cistern/resp"
)

// own is a text whose bytes the test can change behind the program's back.
func own(s string) (string, []byte) {
	b := []byte(s)
	if len(b) == 0 {
		return "", b
	}
	return unsafe.String(&b[0], len(b)), b
}

// shares tells whether two texts lie in the same memory.
func shares(a, b string) bool {
	if a == "" || b == "" {
		return false
	}
	from, other := uintptr(unsafe.Pointer(unsafe.StringData(a))), uintptr(unsafe.Pointer(unsafe.StringData(b)))
	return from < other+uintptr(len(b)) && other < from+uintptr(len(a))
}

// ownWords are words of such texts; spoil changes all of them.
func ownWords(words ...string) (list []string, spoil func()) {
	var all [][]byte
	for _, word := range words {
		text, bytes := own(word)
		list, all = append(list, text), append(all, bytes)
	}
	return list, func() {
		for i := range list {
			list[i] = "spoiled"
		}
		for _, bytes := range all {
			for i := range bytes {
				bytes[i] = '#'
			}
		}
	}
}

// TestP2Words: what is queued, watched and named does not hang on the words that were handed in.
func TestP2Words(t *testing.T) {
	x := newTrial(t)
	say := func(words ...string) string {
		t.Helper()
		list, spoil := ownWords(words...)
		handed := slices.Clone(list)
		got := told(x.s.Do(x.space, list, doer(x.space, x.s, &x.calls)))
		if !slices.Equal(list, handed) || !slices.Equal(list, words) {
			t.Errorf("%q are %q now", words, list)
		}
		spoil()
		return got
	}
	say("HELLO", "3", "SETNAME", "myself")
	say("WATCH", "watched", "other")
	say("MULTI")
	say("SET", "key", "value")
	say("ECHO", "text")
	if got := say("EXEC"); got != `{5 "" 0 [+OK "text"]}` || x.s.Name() != "myself" {
		t.Errorf("%s, name %q", got, x.s.Name())
	}
	if got := say("GET", "key"); got != `"value"` {
		t.Errorf("%s", got)
	}
	// The key that is watched is the one that was named.
	say("WATCH", "watched", "other")
	say("SET", "watched", "1")
	say("MULTI")
	if got := say("EXEC"); got != nullArray {
		t.Errorf("%s", got)
	}
	say("WATCH", "watched")
	say("SET", "#######", "1")
	say("MULTI")
	if got := say("EXEC"); got != emptyArray {
		t.Errorf("%s", got)
	}
}

// TestP2Calls: the words that do is handed from a queue are not those that were handed in.
func TestP2Calls(t *testing.T) {
	s, _ := New(1)
	sp := newSpace()
	words := []string{"SET", "key", "value"}
	s.Do(sp, []string{"MULTI"}, nil)
	s.Do(sp, words, nil)
	s.Do(sp, words, nil)
	var seen [][]string
	s.Do(sp, []string{"EXEC"}, func(db int, args []string) api.Reply {
		seen = append(seen, args)
		for i := range args {
			args[i] = "changed"
		}
		return resp.Int(1)
	})
	if len(seen) != 2 || &seen[0][0] == &seen[1][0] || &seen[0][0] == &words[0] || words[0] != "SET" {
		t.Errorf("%v, %v", seen, words)
	}
}

func TestP2Name(t *testing.T) {
	s, _ := New(1)
	text, bytes := own("myself")
	s.SetName(text)
	bytes[0] = '#'
	a, b := s.Name(), s.Name()
	if a != "myself" || shares(a, b) || shares(a, text) {
		t.Errorf("%q", a)
	}
}

func TestP2Feed(t *testing.T) {
	s, _ := New(1)
	var got []api.Request
	for _, chunk := range []string{"*2\r\n$3\r\nGE", "T\r\n$3\r\nkey\r\nECHO 'some text'\r\nSE", "T a b\r\n"} {
		text, bytes := own(chunk)
		got = append(got, s.Feed(text)...)
		for i := range bytes {
			bytes[i] = '#'
		}
	}
	if requests(got) != `[{["GET" "key"] ""} {["ECHO" "some text"] ""} {["SET" "a" "b"] ""}]` {
		t.Errorf("%s", requests(got))
	}
}

// TestP2Tell: what waits does not hang on the reply that was handed in, nor on what was drained.
func TestP2Tell(t *testing.T) {
	s, _ := New(1)
	text, bytes := own("some text")
	r := api.Reply{Kind: api.ReplyArray, List: []api.Reply{{Kind: api.ReplyBulk, Text: text}, {Kind: api.ReplyInt, N: 1}}}
	s.Tell(r)
	if r.List[0].Text != "some text" || r.List[1].N != 1 {
		t.Errorf("the reply is %s now", told(r))
	}
	bytes[0] = '#'
	r.List[1].N = 2
	s.Tell(r)
	a, b := s.Drain(10), s.Drain(math.MaxInt)
	s.Tell(resp.Status(strings.Repeat("z", 60)))
	if a+b != "*2\r\n$9\r\nsome text\r\n:1\r\n*2\r\n$9\r\n#ome text\r\n:2\r\n" || shares(a, b) {
		t.Errorf("%q, %q", a, b)
	}
}

// textsOf are all texts of a reply.
func textsOf(r api.Reply) []string {
	list := []string{r.Text}
	for _, x := range r.List {
		list = append(list, textsOf(x)...)
	}
	return list
}

// TestP2Replies: a reply is new memory: it shares none with the words, nor with another one.
func TestP2Replies(t *testing.T) {
	for _, listens := range []int{0, 1} {
		s, _ := New(1)
		s.Listen(listens)
		sp := newSpace()
		words, _ := ownWords("PING", "a longer text")
		a, b := s.Do(sp, words, nil), s.Do(sp, words, nil)
		for _, x := range textsOf(a) {
			if slices.ContainsFunc(append(textsOf(b), words...), func(y string) bool { return x != "pong" && shares(x, y) }) {
				t.Errorf("%s shares memory", told(a))
			}
		}
	}
	s, _ := New(1)
	sp := newSpace()
	words, _ := ownWords("ECHO", "a longer text")
	a, b := s.Do(sp, words, nil), s.Do(sp, words, nil)
	if shares(a.Text, b.Text) || shares(a.Text, words[1]) {
		t.Error("ECHO shares memory")
	}
	words, _ = ownWords("FLYING")
	if a = s.Do(sp, words, nil); shares(a.Text, words[0]) {
		t.Error("an error shares memory")
	}
	a, b = s.Do(sp, []string{"HELLO"}, nil), s.Do(sp, []string{"HELLO"}, nil)
	a.List[1].Text = "changed"
	a.List[:cap(a.List)][0].Text = "changed"
	if told(b) != told(greeting(2, 1)) || told(s.Do(sp, []string{"HELLO"}, nil)) != told(greeting(2, 1)) {
		t.Error("two maps share memory")
	}
}

// TestP2Exec: no two lists of EXEC's answer share memory, also where do answers the same one twice.
func TestP2Exec(t *testing.T) {
	s, _ := New(1)
	sp := newSpace()
	one := resp.Texts("a longer text", "another one")
	do := func(int, []string) api.Reply { return one }
	s.Do(sp, []string{"MULTI"}, do)
	for range 3 {
		s.Do(sp, []string{"GET", "a"}, do)
	}
	r := s.Do(sp, []string{"EXEC"}, do)
	if len(r.List) != 3 {
		t.Fatalf("%s", told(r))
	}
	for i, x := range r.List {
		for _, y := range append(slices.Clone(r.List[:i]), one) {
			if &x.List[0] == &y.List[0] || shares(x.List[0].Text, y.List[0].Text) {
				t.Errorf("reply %d shares memory", i)
			}
		}
	}
	r.List[0].List[0].Text = "changed"
	if told(r.List[1]) != told(one) || one.List[0].Text != "a longer text" {
		t.Error("a change of one reply is seen in another one")
	}
}

// TestP2Apart: sessions that are asked at once answer as they do one by one.
func TestP2Apart(t *testing.T) {
	run := func(seed int) string {
		m := mix(seed*17 + 9)
		s, _ := New(1 + seed%8)
		sp := newSpace()
		var out []string
		var calls []string
		for range 200 {
			r := s.Do(sp, anyWords(&m), doer(sp, s, &calls))
			s.Tell(r)
			out = append(out, told(r), s.Drain(m.below(40)), seen(s))
		}
		return strings.Join(append(out, calls...), "\n")
	}
	var want [16]string
	for i := range want {
		want[i] = run(i)
	}
	var got [16]string
	var group sync.WaitGroup
	for i := range got {
		group.Go(func() { got[i] = run(i) })
	}
	group.Wait()
	if got != want {
		t.Error("sessions hang on one another")
	}
}
