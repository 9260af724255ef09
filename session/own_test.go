package session

import (
	"math"
	"strconv"
	"strings"
	"testing"

	"cistern/api"
	"cistern/keyspace"
	"cistern/resp"
)

const emptyArray = `{5 "" 0 []}`
const nullArray = `{9 "" 0 []}`

// TestExamples: the chapter's.
func TestExamples(t *testing.T) {
	x := newTrial(t)
	x.each("MULTI", "+OK", "SET a 1", "+QUEUED", "GET a", "+QUEUED", "EXEC", `{5 "" 0 [+OK "1"]}`)
	x.each("MULTI", "+OK", "FLY", "-ERR unknown command 'FLY'", "EXEC", "-EXECABORT Transaction discarded because of previous errors.")
	x.each("WATCH a", "+OK")
	x.other(0, "SET a 2")
	x.each("MULTI", "+OK", "PING", "+QUEUED", "EXEC", nullArray)
	x.each("SELECT 99", "-ERR DB index is out of range", "HELLO 4", "-NOPROTO unsupported protocol version")
}

func TestMulti(t *testing.T) {
	for _, word := range letters("multi") {
		x := newTrial(t)
		x.each(word, "+OK")
		if x.s.Queued() != 0 {
			t.Errorf("%d queued", x.s.Queued())
		}
		x.refused("ERR MULTI calls can not be nested", word)
		x.each("SET a 1", "+QUEUED")
		x.refused("ERR MULTI calls can not be nested", word)
		x.each("EXEC", `{5 "" 0 [+OK]}`)
		// What a queue was, the next one is not.
		x.each(word, "+OK", "EXEC", emptyArray, word, "+OK", "FLY", "-ERR unknown command 'FLY'", "DISCARD", "+OK", word, "+OK", "GET a", "+QUEUED", "EXEC", `{5 "" 0 ["1"]}`)
	}
}

func TestDiscard(t *testing.T) {
	for _, word := range letters("discard") {
		x := newTrial(t)
		x.each("WATCH a", "+OK")
		x.refused("ERR DISCARD without MULTI", word)
		x.each("MULTI", "+OK", word, "+OK")
		if x.s.Queued() != -1 || x.s.Watched() != 0 {
			t.Error(seen(x.s))
		}
		x.refused("ERR DISCARD without MULTI", word)
		x.each("WATCH a", "+OK", "MULTI", "+OK", "SET a 1", "+QUEUED", "GET a", "+QUEUED")
		x.unchangedSpace(func() { x.each(word, "+OK") })
		x.refused("ERR EXEC without MULTI", "EXEC")
		x.each("GET a", `{0 "" 0 []}`)
		// Nothing is watched any more.
		x.other(0, "SET a 1")
		x.each("MULTI", "+OK", "GET a", "+QUEUED", "EXEC", `{5 "" 0 ["1"]}`)
	}
}

func TestExec(t *testing.T) {
	for _, word := range letters("exec") {
		x := newTrial(t)
		x.each("WATCH a", "+OK")
		x.refused("ERR EXEC without MULTI", word)
		x.each("MULTI", "+OK", word, emptyArray)
		if x.s.Queued() != -1 || x.s.Watched() != 0 {
			t.Error(seen(x.s))
		}
		x.refused("ERR EXEC without MULTI", word)
		// An error of one does not keep the others from being done.
		x.each("MULTI", "+OK", "SET a x", "+QUEUED", "INCR a", "+QUEUED", "LPUSH a y", "+QUEUED", "SET a 5", "+QUEUED", "INCR a", "+QUEUED",
			word, `{5 "" 0 [+OK -ERR value is not an integer or out of range -WRONGTYPE Operation against a key holding the wrong kind of value +OK :6]}`)
		if len(x.calls) != 5 || x.calls[4] != `0 ["INCR" "a"]` {
			t.Errorf("do was called for %v", x.calls)
		}
	}
}

// TestExecOwn: own commands among the queued ones, each by rule 4, and in the database that stands then.
func TestExecOwn(t *testing.T) {
	x := newTrial(t)
	x.each("MULTI", "+OK", "SET a 0", "+QUEUED", "SELECT 1", "+QUEUED", "SET a 1", "+QUEUED", "SELECT 7", "+QUEUED", "SELECT x", "+QUEUED", "SET b 1", "+QUEUED",
		"PING", "+QUEUED", "PING text", "+QUEUED", "ECHO text", "+QUEUED", "UNWATCH", "+QUEUED",
		"HELLO 3 SETNAME me", "+QUEUED", "HELLO 4", "+QUEUED", "HELLO 2 SETNAME", "+QUEUED", "SELECT 2", "+QUEUED", "GET a", "+QUEUED")
	if x.s.Db() != 0 || x.s.Proto() != 2 || x.s.Name() != "" || x.s.Queued() != 15 {
		t.Error(seen(x.s))
	}
	x.each("EXEC", `{5 "" 0 [+OK +OK +OK -ERR DB index is out of range -ERR value is not an integer or out of range +OK`+
		` +PONG "text" "text" +OK `+told(greeting(3, 7))+` -NOPROTO unsupported protocol version -ERR Syntax error in HELLO +OK {0 "" 0 []}]}`)
	if x.s.Db() != 2 || x.s.Proto() != 3 || x.s.Name() != "me" {
		t.Error(seen(x.s))
	}
	x.each("SELECT 0", "+OK", "GET a", `"0"`, "GET b", `{0 "" 0 []}`, "SELECT 1", "+OK", "GET a", `"1"`, "GET b", `"1"`)
}

// TestExecTold: all replies of an EXEC are told in the protocol that stands behind it.
func TestExecTold(t *testing.T) {
	x := newTrial(t)
	x.each("MULTI", "+OK", "GET a", "+QUEUED", "HELLO 3", "+QUEUED", "GET a", "+QUEUED")
	x.tell(x.reply("EXEC"))
	if got := x.drain(math.MaxInt); got != "*3\r\n_\r\n%6\r\n$6\r\nserver\r\n$7\r\ncistern\r\n$7\r\nversion\r\n$1\r\n1\r\n$5\r\nproto\r\n:3\r\n$2\r\nid\r\n:7\r\n$4\r\nmode\r\n$10\r\nstandalone\r\n$4\r\nrole\r\n$6\r\nmaster\r\n_\r\n" {
		t.Errorf("%q", got)
	}
}

// TestExecListens: what is queued is done by rule 4 alone, also while the client listens by protocol 2.
func TestExecListens(t *testing.T) {
	x := newTrial(t)
	x.each("HELLO 3", told(greeting(3, 7)))
	x.listen(2)
	x.each("MULTI", "+OK", "HELLO 2", "+QUEUED", "SET a 1", "+QUEUED", "PING", "+QUEUED", "PING x", "+QUEUED", "HELLO 3", "+QUEUED", "PING", "+QUEUED", "GET a", "+QUEUED",
		"EXEC", `{5 "" 0 [`+told(greeting(2, 7))+` +OK {5 "" 0 ["pong" ""]} {5 "" 0 ["pong" "x"]} `+told(greeting(3, 7))+` +PONG "1"]}`)
}

// TestExecOthers: what is done for a queue may change the session, and even close it; the others are done all the same.
func TestExecOthers(t *testing.T) {
	x := newTrial(t)
	x.each("MULTI", "+OK", "CLIENT me", "+QUEUED", "SET a 1", "+QUEUED", "CLIENT KILL", "+QUEUED", "SELECT 1", "+QUEUED", "SHUTDOWN", "+QUEUED", "INCR a", "+QUEUED",
		"EXEC", `{5 "" 0 [+OK +OK :1 +OK none :1]}`)
	if !x.s.Closed() || x.s.Name() != "me" || x.s.Db() != 1 {
		t.Error(seen(x.s))
	}
}

func TestWatch(t *testing.T) {
	for _, word := range letters("watch") {
		x := newTrial(t)
		for i, c := range []struct {
			words   string
			watched int
		}{
			{"a", 1}, {"a", 1}, {"a a a", 1}, {"b", 2}, {"c b a d", 4}, {"d d e d e", 5}, {"A", 6},
		} {
			x.each(word+" "+c.words, "+OK")
			if x.s.Watched() != c.watched {
				t.Errorf("behind %d: %d are watched, want %d", i, x.s.Watched(), c.watched)
			}
		}
		// In another database they are other keys.
		x.each("SELECT 1", "+OK", word+" a b", "+OK")
		if x.s.Watched() != 8 {
			t.Errorf("%d are watched", x.s.Watched())
		}
		x.each("MULTI", "+OK")
		x.refused("ERR WATCH inside MULTI is not allowed", word, "x")
		x.refused("ERR WATCH inside MULTI is not allowed", word, "a")
		x.each("GET a", "+QUEUED", "EXEC", `{5 "" 0 [{0 "" 0 []}]}`)
	}
}

// TestWatchNames: any text is watched as it is, and told apart from all others.
func TestWatchNames(t *testing.T) {
	names := []string{"", " ", "\x00", "a", "a ", " a", "a\x00", "\xff", "0", "0 a", "1 a", strings.Repeat("k", api.MaxKey), strings.Repeat("k", api.MaxKey+1), strings.Repeat("k", api.MaxElement)}
	x := newTrial(t)
	for i, name := range names {
		if got := x.do("WATCH", name); got != "+OK" || x.s.Watched() != i+1 {
			t.Errorf("name %d: %s, %d are watched", i, got, x.s.Watched())
		}
	}
	x.do(append([]string{"WATCH"}, names...)...)
	if x.s.Watched() != len(names) {
		t.Errorf("%d are watched", x.s.Watched())
	}
	for i, name := range names {
		if len(name) > api.MaxKey {
			continue
		}
		x := newTrial(t)
		x.do(append([]string{"WATCH"}, names...)...)
		x.other(0, "SET other 1")
		for _, y := range []struct {
			sp *keyspace.Space
			c  client
		}{{x.space, x.s}, {x.twin, x.m}} {
			var calls []string
			doer(y.sp, y.c, &calls)(0, []string{"SET", name, "1"})
		}
		if got := x.do("MULTI") + x.do("EXEC"); got != "+OK"+nullArray {
			t.Errorf("name %d: %s", i, got)
		}
	}
}

// keyNames are so many different keys.
func keyNames(from, n int) []string {
	var list []string
	for i := range n {
		list = append(list, "k"+strconv.Itoa(from+i))
	}
	return list
}

func watchOf(keys ...string) []string { return append([]string{"WATCH"}, keys...) }

func TestWatchFull(t *testing.T) {
	const full = "ERR too many watched keys"
	x := newTrial(t)
	x.refused(full, watchOf(keyNames(0, 65)...)...)
	if got := x.do(watchOf(keyNames(0, 64)...)...); got != "+OK" || x.s.Watched() != 64 {
		t.Fatalf("%s, %s", got, seen(x.s))
	}
	x.refused(full, "WATCH", "other")
	x.refused(full, "WATCH", "k0", "other", "k1")
	x.each("WATCH k0", "+OK", "WATCH k63 k5 k5", "+OK", "SELECT 1", "+OK")
	x.refused(full, "WATCH", "k0")
	x.each("UNWATCH", "+OK", "WATCH k0", "+OK")
	x.refused(full, watchOf(keyNames(1, 64)...)...)
	if got := x.do(watchOf(append(keyNames(0, 64), keyNames(0, 64)...)...)...); got != "+OK" || x.s.Watched() != 64 {
		t.Errorf("%s, %s", got, seen(x.s))
	}

	// A refused WATCH watches none of its keys, also where the first of them had room.
	x = newTrial(t)
	x.do(watchOf(keyNames(0, 63)...)...)
	x.refused(full, "WATCH", "a", "b")
	x.other(0, "SET a 1")
	x.each("MULTI", "+OK", "PING", "+QUEUED", "EXEC", `{5 "" 0 [+PONG]}`)
	x.each("WATCH a", "+OK", "MULTI", "+OK", "EXEC", emptyArray)

	// And keeps those that were.
	x.do(watchOf(keyNames(0, 64)...)...)
	x.refused(full, "WATCH", "a")
	x.other(0, "SET k63 1")
	x.each("MULTI", "+OK", "EXEC", nullArray)
}

// TestWatchMany: a WATCH of a million words ends soon, and watches what it names.
func TestWatchMany(t *testing.T) {
	s, _ := New(1)
	sp := newSpace()
	words := []string{"WATCH"}
	for i := range api.MaxArgs - 1 {
		words = append(words, "k"+strconv.Itoa(i%64))
	}
	if got := told(s.Do(sp, words, nil)); got != "+OK" || s.Watched() != 64 {
		t.Errorf("%s, %s", got, seen(s))
	}
	words[len(words)-1] = "other"
	if got := told(s.Do(sp, words, nil)); got != "-ERR too many watched keys" || s.Watched() != 64 {
		t.Errorf("%s, %s", got, seen(s))
	}
}

// TestUnwatch: nothing is watched behind UNWATCH, DISCARD, RESET and EXEC, however it ends.
func TestUnwatch(t *testing.T) {
	for _, end := range [][]string{
		{"UNWATCH"}, {"unwatch"}, {"UnWatch"}, {"MULTI", "DISCARD"}, {"RESET"}, {"MULTI", "RESET"},
		{"MULTI", "EXEC"}, {"MULTI", "SET x 1", "EXEC"}, {"MULTI", "FLY", "EXEC"}, {"MULTI", "UNWATCH", "EXEC"},
	} {
		x := newTrial(t)
		x.each("SET a 1", "+OK", "WATCH a b", "+OK")
		for _, words := range end {
			x.do(strings.Fields(words)...)
		}
		if x.s.Watched() != 0 || x.s.Queued() != -1 {
			t.Errorf("%v: %s", end, seen(x.s))
		}
		x.other(0, "SET a 2")
		x.each("MULTI", "+OK", "GET a", "+QUEUED", "EXEC", `{5 "" 0 ["2"]}`)
		// Watched again, it counts from then on.
		x.each("WATCH a", "+OK", "MULTI", "+OK", "EXEC", emptyArray, "WATCH a", "+OK")
		x.other(0, "SET a 3")
		x.each("MULTI", "+OK", "EXEC", nullArray)
	}
	x := newTrial(t)
	x.each("UNWATCH", "+OK", "UNWATCH", "+OK", "WATCH a", "+OK", "MULTI", "+OK", "UNWATCH", "+QUEUED")
	if x.s.Watched() != 1 {
		t.Error("a queued UNWATCH is done already")
	}
	x.other(0, "SET a 3")
	x.each("EXEC", nullArray)
}

func TestSelect(t *testing.T) {
	for _, word := range letters("select") {
		x := newTrial(t)
		for _, n := range []string{"1", "2", "0", "2"} {
			x.each(word+" "+n, "+OK")
			if strconv.Itoa(x.s.Db()) != n {
				t.Errorf("SELECT %s: %s", n, seen(x.s))
			}
			for _, bad := range []string{"", "x", "01", "+1", "-0", " 1", "1 ", "1.0", "0x1", "1e0", "9223372036854775808", "-9223372036854775809", "１"} {
				x.refused("ERR value is not an integer or out of range", word, bad)
			}
			for _, bad := range []string{"3", "4", "15", "16", "99", "-1", "-2", "-3", "9223372036854775807", "-9223372036854775808", "4294967296", "4294967297"} {
				x.refused("ERR DB index is out of range", word, bad)
			}
		}
	}
}

// TestSelectSpaces: the last database is that of the space that is handed in.
func TestSelectSpaces(t *testing.T) {
	limits := newSpace().Config().Limits
	s, _ := New(1)
	for spaces := 1; spaces <= api.MaxSpaces; spaces++ {
		sp, _ := keyspace.New(api.Config{Spaces: spaces, Limits: limits})
		for db := range api.MaxSpaces + 2 {
			was := s.Db()
			got, want := told(s.Do(sp, []string{"SELECT", strconv.Itoa(db)}, nil)), "+OK"
			if db < spaces {
				was = db
			} else {
				want = "-ERR DB index is out of range"
			}
			if got != want || s.Db() != was {
				t.Errorf("SELECT %d of %d: %s, database %d", db, spaces, got, s.Db())
			}
		}
	}
}

func TestHello(t *testing.T) {
	for _, word := range letters("hello") {
		x := newTrial(t)
		for _, c := range []struct {
			words []string
			want  string
			proto int
			name  string
		}{
			{nil, "", 2, ""}, {[]string{"3"}, "", 3, ""}, {nil, "", 3, ""}, {[]string{"2"}, "", 2, ""}, {[]string{"2"}, "", 2, ""},
			{[]string{"3", "SETNAME", "me"}, "", 3, "me"}, {nil, "", 3, "me"}, {[]string{"2"}, "", 2, "me"},
			{[]string{"2", "setname", "you"}, "", 2, "you"}, {[]string{"2", "SetName", ""}, "", 2, ""},
			{[]string{"3", "SETNAME", strings.Repeat("n", 64)}, "", 3, strings.Repeat("n", 64)},
			{[]string{"2", "SETNAME", "SETNAME"}, "", 2, "SETNAME"},
		} {
			got := x.do(append([]string{word}, c.words...)...)
			if got != told(greeting(c.proto, 7)) || x.s.Proto() != c.proto || x.s.Name() != c.name {
				t.Errorf("HELLO %q: %s, %s", c.words, got, seen(x.s))
			}
		}
	}
}

func TestHelloErrors(t *testing.T) {
	const (
		version  = "ERR Protocol version is not an integer or out of range"
		protocol = "NOPROTO unsupported protocol version"
		syntax   = "ERR Syntax error in HELLO"
		badName  = "ERR Client names cannot contain spaces, newlines or special characters."
	)
	for _, before := range [][]string{{"HELLO"}, {"HELLO", "3", "SETNAME", "me"}, {"HELLO", "2", "SETNAME", "you"}} {
		x := newTrial(t)
		x.do(before...)
		for want, list := range map[string][][]string{
			version:  {{""}, {"x"}, {"03"}, {"+3"}, {" 3"}, {"3.0"}, {"9223372036854775808"}, {"x", "FOO"}, {"x", "SETNAME", "a b"}, {"SETNAME", "a"}},
			protocol: {{"0"}, {"1"}, {"4"}, {"-2"}, {"-3"}, {"23"}, {"9223372036854775807"}, {"4294967298"}, {"4", "FOO"}, {"1", "SETNAME", "a b"}, {"5", "SETNAME"}},
			syntax:   {{"3", "SETNAME"}, {"2", "SETNAME"}, {"3", "FOO"}, {"3", ""}, {"3", "name"}, {"2", "FOO", "a"}, {"3", "FOO", "a b"}, {"3", "SETNAME ", "a"}, {"2", "SETNAM", "a"}, {"2", "AUTH", "a"}, {"3", "", ""}, {"3", "a", "SETNAME"}},
			badName:  {{"3", "SETNAME", " "}, {"2", "SETNAME", "a b"}, {"3", "setname", "a\n"}, {"2", "SETNAME", "\x7f"}, {"3", "SETNAME", "é"}, {"3", "SETNAME", strings.Repeat("n", 65)}, {"2", "SETNAME", "\x00"}},
		} {
			for _, words := range list {
				x.refused(want, append([]string{"HELLO"}, words...)...)
			}
		}
		x.refused("ERR wrong number of arguments for 'hello' command", "HELLO", "3", "SETNAME", "a", "b")
		x.refused("ERR wrong number of arguments for 'hello' command", "HELLO", "3", "AUTH", "a", "b", "SETNAME", "c")
	}
}

// TestHelloId: each session tells its own number, and the map in the protocol that stands then.
func TestHelloId(t *testing.T) {
	for id := 1; id <= api.MaxClients; id++ {
		s, _ := New(id)
		for _, proto := range []int{3, 2} {
			got := s.Do(newSpace(), []string{"HELLO", strconv.Itoa(proto)}, nil)
			if told(got) != told(greeting(proto, id)) {
				t.Errorf("session %d: %s", id, told(got))
			}
			s.Tell(got)
			mark := map[int]string{2: "*12\r\n", 3: "%6\r\n"}[proto]
			if text := s.Drain(math.MaxInt); !strings.HasPrefix(text, mark+"$6\r\nserver\r\n$7\r\ncistern\r\n$7\r\nversion\r\n$1\r\n1\r\n$5\r\nproto\r\n:"+strconv.Itoa(proto)+"\r\n$2\r\nid\r\n:"+strconv.Itoa(id)+"\r\n") {
				t.Errorf("session %d: %q", id, text)
			}
		}
	}
}

func TestReset(t *testing.T) {
	for _, word := range letters("reset") {
		x := newTrial(t)
		x.each(word, "+RESET", "SELECT 2", "+OK", "HELLO 3 SETNAME me", told(greeting(3, 7)), "WATCH a b", "+OK", "MULTI", "+OK", "SET a 1", "+QUEUED", "FLY", "-ERR unknown command 'FLY'")
		x.listen(4)
		x.tell(resp.Int(1))
		x.unchangedSpace(func() { x.each(word, "+RESET") })
		if got, want := seen(x.s), state(7, 0, 2, "", -1, 0, 4, 4, false); got != want {
			t.Errorf("%s, want %s", got, want)
		}
		x.each(word, "+RESET")
		x.listen(0)
		x.refused("ERR EXEC without MULTI", "EXEC")
		x.each("SET a 2", "+OK")
		if x.calls[0] != `0 ["SET" "a" "2"]` {
			t.Errorf("do was called for %v", x.calls)
		}
		x.each("WATCH a", "+OK", word, "+RESET")
		x.other(0, "SET a 3")
		x.each("MULTI", "+OK", "GET a", "+QUEUED", "EXEC", `{5 "" 0 ["3"]}`)
	}
}

func TestQuit(t *testing.T) {
	for _, word := range letters("quit") {
		x := newTrial(t)
		x.tell(resp.Int(1))
		x.unchanged(func() { x.each(word, "+OK") })
		for _, words := range []string{"GET a", "QUIT", "PING", "FLY", "GET", "RESET", "EXEC", "MULTI"} {
			x.unchanged(func() { x.each(words, "none") })
		}
		// What can't be written is not the one reply more.
		for _, r := range unwritten() {
			x.unchanged(func() {
				if err := x.tell(r); err != api.ErrArg {
					t.Errorf("error %d", err)
				}
			})
		}
		x.each("PING", "none")
		if x.tell(resp.Status("OK")) != api.OK || !x.s.Closed() {
			t.Error(seen(x.s))
		}
		x.unchanged(func() {
			if err := x.tell(resp.Int(2)); err != api.ErrSession {
				t.Errorf("error %d", err)
			}
			x.each("PING", "none", "QUIT", "none")
		})
		if got := x.drain(99); got != ":1\r\n+OK\r\n" {
			t.Errorf("%q waited", got)
		}
	}
}

// TestQuitKinds: the one reply that is taken yet may be any, also one of which nothing is written.
func TestQuitKinds(t *testing.T) {
	for _, c := range wordings() {
		x := newTrial(t)
		x.each("QUIT", "+OK")
		if err := x.tell(c.reply); err != api.OK || !x.s.Closed() {
			t.Errorf("Tell(%s): error %d, %s", told(c.reply), err, seen(x.s))
		}
		if got := x.drain(math.MaxInt); got != c.two {
			t.Errorf("%q waited, want %q", got, c.two)
		}
	}
}

// TestQuitFull: where the one reply has no room, it is closed too.
func TestQuitFull(t *testing.T) {
	s := filled(t, api.MaxQueue-4)
	s.Do(newSpace(), []string{"QUIT"}, nil)
	if err := s.Tell(resp.Int(12)); err != api.ErrFull || !s.Closed() || s.Waits() != api.MaxQueue-4 {
		t.Errorf("error %d, %s", err, seen(s))
	}
	if err := s.Tell(resp.Int(1)); err != api.ErrSession {
		t.Errorf("error %d", err)
	}
	s = filled(t, api.MaxQueue-5)
	s.Do(newSpace(), []string{"QUIT"}, nil)
	if err := s.Tell(resp.Status("OK")); err != api.OK || !s.Closed() || s.Waits() != api.MaxQueue {
		t.Errorf("error %d, %s", err, seen(s))
	}
}

// TestQuitQueue: QUIT comes at once, also where requests are queued, and while it listens.
func TestQuitQueue(t *testing.T) {
	x := newTrial(t)
	x.each("MULTI", "+OK", "SET a 1", "+QUEUED")
	x.unchanged(func() { x.each("QUIT", "+OK", "EXEC", "none", "DISCARD", "none", "SET b 1", "none") })
	x = newTrial(t)
	x.listen(1)
	x.each("QUIT", "+OK", "PING", "none")
	// What else is asked of it goes on.
	x.listen(3)
	if x.s.SetName("late") != api.OK || x.s.Listens() != 3 || x.s.Name() != "late" || x.s.Closed() {
		t.Error(seen(x.s))
	}
	x.m.SetName("late")
	x.tell(resp.Null())
	if !x.s.Closed() {
		t.Error("not closed")
	}
}

func TestPing(t *testing.T) {
	for _, word := range letters("ping") {
		x := newTrial(t)
		x.each(word, "+PONG", word+" text", `"text"`)
		if got := x.do(word, ""); got != `""` {
			t.Errorf("PING of the empty text: %s", got)
		}
		if got := x.do(word, "a\r\nb\x00"); got != `"a\r\nb\x00"` {
			t.Errorf("PING: %s", got)
		}
		x.listen(1)
		x.each(word, `{5 "" 0 ["pong" ""]}`, word+" text", `{5 "" 0 ["pong" "text"]}`)
		if got := x.do(word, ""); got != `{5 "" 0 ["pong" ""]}` {
			t.Errorf("PING of the empty text: %s", got)
		}
		x.listen(0)
		x.each(word, "+PONG", "HELLO 3", told(greeting(3, 7)))
		x.listen(1)
		x.each(word, "+PONG", word+" text", `"text"`, "RESET", "+RESET", word, `{5 "" 0 ["pong" ""]}`)
	}
}

func TestEcho(t *testing.T) {
	for _, word := range letters("echo") {
		x := newTrial(t)
		for _, text := range []string{"text", "", "a b", "\r\n\x00\xff", "PING", strings.Repeat("x", api.MaxElement)} {
			if got := x.reply(word, text); got.Kind != api.ReplyBulk || got.Text != text || got.N != 0 || got.List != nil {
				t.Errorf("ECHO %q: %s", short(text), short(told(got)))
			}
		}
	}
}
