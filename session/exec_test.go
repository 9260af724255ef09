package session

import (
	"strings"
	"testing"
)

// watchCase is what befalls key a of database 0 between WATCH and EXEC.
type watchCase struct {
	name    string
	before  []string // what others do ahead of WATCH
	between []string // and behind it
	later   int      // by how much the clock goes on
	changed bool
}

func watchCases() []watchCase {
	return []watchCase{
		{name: "as it is", before: []string{"SET a 1"}},
		{name: "never there"},
		{name: "looked at", before: []string{"SET a 1"}, between: []string{"GET a", "TTL a", "TYPE a", "STRLEN a", "EXISTS a"}},
		{name: "refused", before: []string{"SET a x"}, between: []string{"INCR a", "LPUSH a x", "SET a"}},
		{name: "changed", before: []string{"SET a 1"}, between: []string{"SET a 2"}, changed: true},
		{name: "changed to the same", before: []string{"SET a 1"}, between: []string{"SET a 1"}, changed: true},
		{name: "changed and back", before: []string{"SET a 1"}, between: []string{"INCR a", "DECR a"}, changed: true},
		{name: "worked on", before: []string{"RPUSH a x"}, between: []string{"RPUSH a y"}, changed: true},
		{name: "dropped", before: []string{"SET a 1"}, between: []string{"DEL a"}, changed: true},
		{name: "dropped and made", before: []string{"SET a 1"}, between: []string{"DEL a", "SET a 1"}, changed: true},
		{name: "emptied", before: []string{"RPUSH a x"}, between: []string{"LPOP a"}, changed: true},
		{name: "made", between: []string{"SET a 1"}, changed: true},
		{name: "made and dropped", between: []string{"SET a 1", "DEL a"}},
		{name: "made and emptied", between: []string{"RPUSH a 1", "LPOP a"}},
		{name: "its time has come", before: []string{"SET a 1 PX 10"}, later: 10, changed: true},
		{name: "its time has not come", before: []string{"SET a 1 PX 10"}, later: 9},
		{name: "made, and its time has come", between: []string{"SET a 1 PX 10"}, later: 10},
		{name: "made, and its time has not come", between: []string{"SET a 1 PX 10"}, later: 9, changed: true},
		{name: "to expire", before: []string{"SET a 1"}, between: []string{"PEXPIRE a 100"}, changed: true},
		{name: "to expire no more", before: []string{"SET a 1 PX 100"}, between: []string{"PERSIST a"}, changed: true},
		{name: "expired at once", before: []string{"SET a 1"}, between: []string{"PEXPIRE a 0"}, changed: true},
		{name: "renamed away", before: []string{"SET a 1"}, between: []string{"RENAME a b"}, changed: true},
		{name: "renamed to", before: []string{"SET a 1", "SET b 2"}, between: []string{"RENAME b a"}, changed: true},
		{name: "moved", before: []string{"SET a 1"}, between: []string{"MOVE a 1"}, changed: true},
		{name: "flushed", before: []string{"SET a 1"}, between: []string{"FLUSHALL"}, changed: true},
		{name: "exchanged", before: []string{"SET a 1"}, between: []string{"SWAPDB 0 2"}, changed: true},
		{name: "another key", before: []string{"SET a 1"}, between: []string{"SET b 1", "DEL b", "SET aa 1", "SET A 1"}},
		{name: "copied", before: []string{"SET a 1"}, between: []string{"COPY a b"}},
	}
}

// TestExecWatched: EXEC does what is queued just if no watched key has another mark.
func TestExecWatched(t *testing.T) {
	for _, c := range watchCases() {
		for _, queue := range []bool{false, true} { // whether MULTI stands ahead of what befalls the key, or behind it
			x := newTrial(t)
			for _, words := range c.before {
				x.other(0, words)
			}
			x.each("WATCH z a y", "+OK")
			if queue {
				x.each("MULTI", "+OK", "SET q 1", "+QUEUED")
			}
			for _, words := range c.between {
				x.other(0, words)
			}
			x.advance(c.later)
			if !queue {
				x.each("MULTI", "+OK", "SET q 1", "+QUEUED")
			}
			if c.changed {
				x.unchangedSpace(func() { x.each("EXEC", nullArray) })
				if len(x.calls) != 0 {
					t.Errorf("%s: do was called for %v", c.name, x.calls)
				}
			} else {
				x.each("EXEC", `{5 "" 0 [+OK]}`)
			}
			if x.s.Watched() != 0 || x.s.Queued() != -1 {
				t.Errorf("%s: %s", c.name, seen(x.s))
			}
			x.each("EXEC", "-ERR EXEC without MULTI", "MULTI", "+OK", "PING", "+QUEUED", "EXEC", `{5 "" 0 [+PONG]}`)
		}
	}
}

// TestExecDatabases: a watched key is one of the database that stood when it was watched.
func TestExecDatabases(t *testing.T) {
	for _, c := range []struct {
		watches string // what is done ahead of MULTI
		db      int    // where a is changed
		changed bool
	}{
		{"WATCH a", 0, true}, {"WATCH a", 1, false}, {"SELECT 1; WATCH a", 0, false}, {"SELECT 1; WATCH a", 1, true},
		{"SELECT 1; WATCH a; SELECT 0", 1, true}, {"SELECT 1; WATCH a; SELECT 0", 0, false},
		{"WATCH a; SELECT 2; WATCH a", 0, true}, {"WATCH a; SELECT 2; WATCH a", 2, true}, {"WATCH a; SELECT 2; WATCH a", 1, false},
		{"WATCH b; SELECT 2; WATCH a", 0, false}, {"SELECT 2; WATCH a; RESET", 2, false}, {"SELECT 2; WATCH a; RESET; WATCH a", 0, true},
	} {
		x := newTrial(t)
		for _, words := range strings.Split(c.watches, "; ") {
			if got := x.do(strings.Fields(words)...); got[0] != '+' {
				t.Fatalf("%s: %s", words, got)
			}
		}
		x.other(c.db, "SET a 1")
		want := emptyArray
		if c.changed {
			want = nullArray
		}
		x.each("MULTI", "+OK", "EXEC", want)
	}
}

// TestExecFirstMark: a key that is watched again keeps the mark that it had first.
func TestExecFirstMark(t *testing.T) {
	x := newTrial(t)
	x.each("SET a 1", "+OK", "WATCH a", "+OK")
	x.other(0, "SET a 2")
	x.each("WATCH a", "+OK", "WATCH b a", "+OK", "MULTI", "+OK", "GET a", "+QUEUED", "EXEC", nullArray)
	// What the client itself changes counts as well.
	x.each("WATCH a", "+OK", "SET a 3", "+OK", "MULTI", "+OK", "EXEC", nullArray)
	// But not what is queued.
	x.each("WATCH a", "+OK", "MULTI", "+OK", "SET a 4", "+QUEUED", "SET a 5", "+QUEUED", "EXEC", `{5 "" 0 [+OK +OK]}`)
	// One of many is enough, wherever it stands.
	for _, key := range keyNames(0, 64) {
		x.do(watchOf(keyNames(0, 64)...)...)
		x.other(0, "SET "+key+" 1")
		x.each("MULTI", "+OK", "GET a", "+QUEUED", "EXEC", nullArray)
	}
}

// TestExecTwoClients: two clients that watch one key: the first one's EXEC is the other's change.
func TestExecTwoClients(t *testing.T) {
	sp := newSpace()
	a, _ := New(1)
	b, _ := New(2)
	say := func(s *Session, words, want string) {
		t.Helper()
		var calls []string
		if got := told(s.Do(sp, strings.Fields(words), doer(sp, s, &calls))); got != want {
			t.Errorf("client %d: %s: %s, want %s", s.Id(), words, got, want)
		}
	}
	for _, s := range []*Session{a, b} {
		say(s, "WATCH a", "+OK")
		say(s, "MULTI", "+OK")
		say(s, "INCR a", "+QUEUED")
	}
	say(a, "EXEC", `{5 "" 0 [:1]}`)
	say(b, "EXEC", nullArray)
	say(b, "MULTI", "+OK")
	say(b, "INCR a", "+QUEUED")
	say(b, "EXEC", `{5 "" 0 [:2]}`)
}
