package session

import (
	"fmt"
	"slices"
	"strconv"
	"strings"
	"testing"

	"cistern/api"
	"cistern/table"
)

// wordsOf are a command's words: its name and others, so many in all.
func wordsOf(name string, n int) []string {
	words := []string{name}
	for i := 1; i < n; i++ {
		words = append(words, "w"+strconv.Itoa(i))
	}
	return words
}

// aborts holds that EXEC tells of a broken queue.
func (x *trial) aborts() {
	x.t.Helper()
	x.unchangedSpace(func() {
		x.each("EXEC", "-EXECABORT Transaction discarded because of previous errors.")
	})
	if len(x.calls) != 0 || x.s.Queued() != -1 {
		x.fail("do was called for %v, %d are queued", x.calls, x.s.Queued())
	}
}

func (x *trial) unchangedSpace(what func()) {
	x.t.Helper()
	held := content(x.space)
	what()
	if now := content(x.space); now != held {
		x.fail("the space holds %s, was %s", now, held)
	}
}

// refused holds that words are told an error, and change nothing.
func (x *trial) refused(want string, words ...string) {
	x.t.Helper()
	x.unchanged(func() {
		x.t.Helper()
		if got := x.do(words...); got != "-"+want {
			x.fail("%s, want %s", short(got), want)
		}
	})
	if len(x.calls) != 0 {
		x.fail("do was called for %v", x.calls)
	}
}

// TestSE4Unknown: words that are no command are told so, and break a queue.
func TestSE4Unknown(t *testing.T) {
	long := strings.Repeat("f", 200)
	for _, c := range []struct {
		words []string
		want  string
	}{
		{nil, ""}, {[]string{}, ""}, {[]string{""}, ""}, {[]string{"", "a"}, ""},
		{[]string{"fly"}, "fly"}, {[]string{"FLY", "1"}, "FLY"}, {[]string{"GETT", "a"}, "GETT"}, {[]string{"ge"}, "ge"},
		{[]string{"exec "}, "exec "}, {[]string{" multi"}, " multi"}, {[]string{"it's\n"}, "it?s?"}, {[]string{long}, long[:128]},
	} {
		x := newTrial(t)
		want := "ERR unknown command '" + c.want + "'"
		x.refused(want, c.words...)
		x.each("MULTI", "+OK", "SET a 1", "+QUEUED")
		x.refused(want, c.words...)
		x.each("GET a", "+QUEUED")
		x.aborts()
		x.each("MULTI", "+OK", "EXEC", "{5 \"\" 0 []}")
		// One that comes while it listens is told the same.
		x.listen(1)
		x.refused(want, c.words...)
	}
}

// TestSE4Arity: of each command of the table too few words, and too many, with a queue and without.
func TestSE4Arity(t *testing.T) {
	for _, name := range table.All() {
		spec, _ := table.Find(name)
		var counts []int
		for n := 1; n < spec.Least; n++ {
			counts = append(counts, n)
		}
		if spec.Most >= 0 {
			counts = append(counts, spec.Most+1, spec.Most+2, spec.Most+50)
		}
		for _, n := range counts {
			for _, written := range letters(name) {
				want := "ERR wrong number of arguments for '" + name + "' command"
				x := newTrial(t)
				x.refused(want, wordsOf(written, n)...)
				x.each("MULTI", "+OK", "SET a 1", "+QUEUED")
				x.refused(want, wordsOf(written, n)...)
				x.each("GET a", "+QUEUED")
				x.aborts()
				x.listen(1)
				x.refused(want, wordsOf(written, n)...)
			}
		}
	}
}

// TestSE4Listening: while a client listens, by protocol 2 just these names may come; by protocol 3 all.
func TestSE4Listening(t *testing.T) {
	for _, name := range table.All() {
		spec, _ := table.Find(name)
		for _, written := range letters(name) {
			words := wordsOf(written, spec.Least)
			plain := newTrial(t)
			want := plain.do(words...)
			calls := plain.calls

			two := newTrial(t)
			two.listen(1)
			if !slices.Contains(whileListening, name) {
				two.refused("ERR Can't execute '"+name+"': only (P|S)SUBSCRIBE / (P|S)UNSUBSCRIBE / PING / QUIT / RESET are allowed in this context", words...)
			} else if got := two.do(words...); got != want && name != "ping" || !slices.Equal(two.calls, calls) {
				t.Errorf("%v while it listens: %s, want %s", words, got, want)
			}

			three := newTrial(t)
			three.do("HELLO", "3")
			three.listen(1)
			if got := three.do(words...); got != want && name != "hello" || !slices.Equal(three.calls, calls) {
				t.Errorf("%v while it listens by protocol 3: %s, want %s", words, got, want)
			}

			deaf := newTrial(t)
			deaf.listen(1)
			deaf.listen(0)
			if got := deaf.do(words...); got != want || !slices.Equal(deaf.calls, calls) {
				t.Errorf("%v when it listens no more: %s, want %s", words, got, want)
			}
		}
	}
}

// TestSE4ListeningMany: it is the same, to however many it listens; what is changed behind a refusal is asked anew.
func TestSE4ListeningMany(t *testing.T) {
	refusal := "ERR Can't execute 'get': only (P|S)SUBSCRIBE / (P|S)UNSUBSCRIBE / PING / QUIT / RESET are allowed in this context"
	x := newTrial(t)
	for _, n := range []int{1, 2, 255, 256, 100000} {
		x.listen(n)
		x.refused(refusal, "gET", "a")
		x.listen(-n)
		x.each("GET a", "{0 \"\" 0 []}")
	}
	x.each("SUBSCRIBE a b", "none")
	x.refused(refusal, "GET", "a")
	x.each("UNSUBSCRIBE", "none", "GET a", "{0 \"\" 0 []}", "HELLO 3", told(greeting(3, 7)))
	x.listen(3)
	x.each("GET a", "{0 \"\" 0 []}", "HELLO 2", told(greeting(2, 7)))
	x.refused(refusal, "GET", "a")
	x.each("RESET", "+RESET")
	x.refused(refusal, "GET", "a")
	if x.s.Listens() != 3 {
		t.Error("RESET has changed to how many it listens")
	}
	x.listen(0)
	x.each("GET a", "{0 \"\" 0 []}")
}

// TestSE4ListeningFirst: while it listens, what may not come is not queued, and does not break the queue.
func TestSE4ListeningFirst(t *testing.T) {
	x := newTrial(t)
	x.each("MULTI", "+OK", "SET a 1", "+QUEUED")
	x.listen(1)
	for _, name := range []string{"get", "set", "multi", "exec", "discard", "watch", "unwatch", "select", "hello", "echo"} {
		spec, _ := table.Find(name)
		x.refused("ERR Can't execute '"+name+"': only (P|S)SUBSCRIBE / (P|S)UNSUBSCRIBE / PING / QUIT / RESET are allowed in this context", wordsOf(name, spec.Least)...)
	}
	x.each("PING", "+QUEUED", "PING x", "+QUEUED")
	x.listen(0)
	x.each("EXEC", `{5 "" 0 [+OK +PONG "x"]}`)

	// What listens may not be queued even then.
	x.each("MULTI", "+OK")
	x.listen(1)
	x.refused("ERR Command not allowed inside a transaction", "SUBSCRIBE", "c")
	x.listen(0)
	x.aborts()
}

// TestSE4Queueing: what of all commands is queued, what is done at once, and what may not come.
func TestSE4Queueing(t *testing.T) {
	for _, name := range table.All() {
		spec, _ := table.Find(name)
		for _, written := range letters(name) {
			words := wordsOf(written, spec.Least)
			x := newTrial(t)
			x.each("SET a 1", "+OK", "MULTI", "+OK")
			switch {
			case slices.Contains(notQueued, name):
				if got := x.do(words...); got == "+QUEUED" || x.s.Queued() > 0 {
					t.Errorf("%v is queued", words)
				}
				continue
			case spec.Sub:
				x.refused("ERR Command not allowed inside a transaction", words...)
				x.each("GET a", "+QUEUED")
				x.aborts()
				continue
			}
			x.unchangedSpace(func() {
				if got := x.do(words...); got != "+QUEUED" || x.s.Queued() != 1 || len(x.calls) != 0 {
					t.Errorf("%v: %s, %d queued, do was called for %v", words, got, x.s.Queued(), x.calls)
				}
			})
			plain := newTrial(t)
			plain.each("SET a 1", "+OK")
			want := plain.do(words...)
			if got := x.do("EXEC"); got != fmt.Sprintf("{5 \"\" 0 [%s]}", want) || !slices.Equal(x.calls, plain.calls) || content(x.space) != content(plain.space) {
				t.Errorf("EXEC of %v: %s, want %s in it; do was called for %v", words, got, want, x.calls)
			}
		}
	}
}

// fill queues so many requests.
func (x *trial) fill(n int) {
	x.t.Helper()
	for i := range n {
		if got := told(x.s.Do(x.space, []string{"INCR", "n"}, doer(x.space, x.s, &x.calls))); got != "+QUEUED" || x.s.Queued() != i+1 {
			x.fail("request %d: %s, %d queued", i, got, x.s.Queued())
		}
		x.m.Do(x.twin, []string{"INCR", "n"}, nil)
	}
	x.alike()
}

func TestSE4TooMany(t *testing.T) {
	x := newTrial(t)
	x.do("MULTI")
	x.fill(api.MaxQueued)
	got := x.reply("EXEC")
	if len(got.List) != api.MaxQueued || got.List[api.MaxQueued-1].N != api.MaxQueued || len(x.calls) != api.MaxQueued {
		t.Errorf("%d replies, %d calls", len(got.List), len(x.calls))
	}

	x.do("MULTI")
	x.fill(api.MaxQueued)
	x.each("SUBSCRIBE c", "-ERR Command not allowed inside a transaction")
	x.aborts()

	for _, words := range []string{"INCR n", "PING", "SELECT 1", "UNWATCH", "HELLO 3", "ECHO x"} {
		x.do("MULTI")
		x.fill(api.MaxQueued)
		// These are not queued, so there is room for them.
		x.each("MULTI", "-ERR MULTI calls can not be nested", "WATCH a", "-ERR WATCH inside MULTI is not allowed")
		x.refused("ERR too many queued commands", strings.Fields(words)...)
		x.refused("ERR too many queued commands", "INCR", "n")
		if x.s.Queued() != api.MaxQueued {
			t.Errorf("%d queued", x.s.Queued())
		}
		x.aborts()
	}
	x.each("GET n", `"1024"`)

	x.do("MULTI")
	x.fill(api.MaxQueued)
	x.each("DISCARD", "+OK", "GET n", `"1024"`, "MULTI", "+OK")
	x.fill(api.MaxQueued - 1)
	x.each("INCR n", "+QUEUED")
	x.refused("ERR too many queued commands", "INCR", "n")
	x.each("RESET", "+RESET", "MULTI", "+OK", "INCR n", "+QUEUED", "EXEC", `{5 "" 0 [:1025]}`)
}

// TestSE4Broken: a broken queue goes on to take requests, and is broken for good.
func TestSE4Broken(t *testing.T) {
	for _, words := range []string{"FLY", "GET", "GET a b", "EXEC x", "MULTI x", "SUBSCRIBE c", "punsubscribe"} {
		x := newTrial(t)
		x.each("WATCH a", "+OK", "MULTI", "+OK")
		x.do(strings.Fields(words)...)
		x.each("SET a 1", "+QUEUED", "SELECT 1", "+QUEUED", "PING", "+QUEUED")
		if x.s.Queued() != 3 || x.s.Watched() != 1 {
			t.Errorf("%s", seen(x.s))
		}
		x.aborts()
		if x.s.Watched() != 0 {
			t.Errorf("%d are watched", x.s.Watched())
		}
		x.each("EXEC", "-ERR EXEC without MULTI")

		// DISCARD and RESET let go of it too; what comes then is whole.
		for _, end := range []string{"DISCARD", "RESET"} {
			x.each("MULTI", "+OK")
			x.do(strings.Fields(words)...)
			x.do(end)
			x.each("EXEC", "-ERR EXEC without MULTI", "MULTI", "+OK", "PING", "+QUEUED", "EXEC", `{5 "" 0 [+PONG]}`)
		}
	}
}

// TestSE4BrokenFirst: that the queue is broken is told ahead of a watched key that was changed.
func TestSE4BrokenFirst(t *testing.T) {
	x := newTrial(t)
	x.each("WATCH a", "+OK")
	x.other(0, "SET a 1")
	x.each("MULTI", "+OK", "FLY", "-ERR unknown command 'FLY'")
	x.aborts()
}

// TestSE4Closed: a closed session does nothing, whatever it is asked.
func TestSE4Closed(t *testing.T) {
	ends := map[string]func(x *trial){
		"Close": func(x *trial) { x.close() },
		"QUIT":  func(x *trial) { x.each("QUIT", "+OK") },
		"QUIT, told": func(x *trial) {
			x.each("QUIT", "+OK")
			x.tell(api.Reply{Kind: api.ReplyStatus, Text: "OK"})
		},
	}
	for how, end := range ends {
		for _, queues := range []bool{false, true} {
			x := newTrial(t)
			x.each("SELECT 1", "+OK", "WATCH a", "+OK")
			if queues {
				x.each("MULTI", "+OK", "SET a 1", "+QUEUED")
			}
			end(x)
			requests := [][]string{nil, {""}, {"FLY"}, {"GET"}}
			for _, name := range table.All() {
				spec, _ := table.Find(name)
				requests = append(requests, wordsOf(name, spec.Least), wordsOf(strings.ToUpper(name), spec.Least))
			}
			requests = append(requests, []string{"SET", "a", "1"}, []string{"HELLO", "3", "SETNAME", "x"}, []string{"SELECT", "2"})
			for _, words := range requests {
				x.unchanged(func() {
					if got := x.do(words...); got != "none" || len(x.calls) != 0 {
						t.Errorf("%s: %v: %s, do was called for %v", how, words, got, x.calls)
					}
				})
			}
		}
	}
}

// TestSE4Calls: do is called just once a command, in the right database, with the words as they came.
func TestSE4Calls(t *testing.T) {
	x := newTrial(t)
	for _, db := range []string{"0", "2", "1"} {
		x.do("SELECT", db)
		for _, words := range [][]string{{"sEt", "K", "V 1"}, {"GET", "K"}, {"del", "a", "b", "a"}, {"INFO"}, {"mset", "", "", "\x00", "\xff"}} {
			x.do(words...)
			if want := fmt.Sprintf("%s %q", db, words); len(x.calls) != 1 || x.calls[0] != want {
				t.Errorf("do was called for %v, want %s", x.calls, want)
			}
		}
	}
	for _, words := range []string{"SELECT 0", "SELECT x", "HELLO", "HELLO 9", "PING", "ECHO x", "WATCH a", "UNWATCH", "DISCARD", "EXEC", "MULTI", "GET a", "SELECT 1", "WATCH a", "MULTI", "DISCARD", "RESET", "GET", "FLY", "QUIT"} {
		if x.do(strings.Fields(words)...); len(x.calls) != 0 {
			t.Errorf("%s: do was called for %v", words, x.calls)
		}
	}
}

// TestSE4NoDo: without a do there is nothing that does a command; what is the session's own goes on.
func TestSE4NoDo(t *testing.T) {
	s, _ := New(1)
	sp := newSpace()
	for _, c := range []struct{ words, want string }{
		{"GET a", "{0 \"\" 0 []}"}, {"PING", "+PONG"}, {"MULTI", "+OK"}, {"GET a", "+QUEUED"}, {"EXEC", `{5 "" 0 [{0 "" 0 []}]}`},
	} {
		if got := told(s.Do(sp, strings.Fields(c.words), nil)); got != c.want {
			t.Errorf("%s: %s, want %s", c.words, got, c.want)
		}
	}
}
