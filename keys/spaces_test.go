package keys

import (
	"fmt"
	"strings"
	"testing"

	"cistern/api"
)

// nones are databases that are none.
var nones = []int{-1, -2, -1 << 63, databases, databases + 1, api.MaxSpaces, api.MaxSpaces + 1, 1<<63 - 1}

// TestKY1NoDatabase: what each command tells in a database that is none; nothing changes, but by FLUSHALL and SWAPDB, which name others.
func TestKY1NoDatabase(t *testing.T) {
	for _, db := range nones {
		for _, c := range []struct{ line, want string }{
			{"DEL str list", ":0"}, {"UNLINK str", ":0"}, {"EXISTS str k other", ":0"}, {"TOUCH str k", ":0"}, {"TYPE str", "+none"}, {"EXPIRE str 5", ":0"}, {"PEXPIRE timed 5 LT", ":0"}, {"EXPIREAT str 5 NX", ":0"}, {"PEXPIREAT timed 0", ":0"}, {"EXPIRE str x", "-" + noNumber}, {"EXPIRE str 1 ZZ", "-" + noOption + "ZZ"}, {"EXPIRE str " + greatest, "-" + badTime("expire")},
			{"TTL timed", ":-2"}, {"PTTL timed", ":-2"}, {"EXPIRETIME timed", ":-2"}, {"PEXPIRETIME timed", ":-2"}, {"PERSIST timed", ":0"}, {"RENAME str new", "-" + noKey}, {"RENAME str str", "-" + noKey}, {"RENAMENX str new", "-" + noKey},
			{"COPY str new", ":0"}, {"COPY str new REPLACE", ":0"}, {"COPY str str", "-" + sameOne}, {"COPY str str DB 0", ":0"}, {"COPY str str DB 0 REPLACE", ":0"}, {"COPY k k DB 99", "-" + noDB}, {fmt.Sprint("COPY k k DB ", db), "-" + noDB}, {"COPY str new BOGUS", "-" + syntax}, {"MOVE str 0", ":0"}, {"MOVE str 1", ":0"}, {fmt.Sprint("MOVE str ", db), "-" + noDB},
			{"KEYS *", "[]"}, {"SCAN 0", "[$0 []]"}, {"SCAN 5 MATCH * COUNT 99 TYPE string", "[$0 []]"}, {"SCAN x", "-" + noCursor}, {"RANDOMKEY", "_"}, {"OBJECT ENCODING str", "_"}, {"OBJECT IDLETIME str", "_"}, {"OBJECT REFCOUNT str", "_"}, {"OBJECT FREQ str", "-" + noUses}, {"OBJECT BOGUS str", "-" + syntax},
			{"SORT list", "[]"}, {"SORT str", "[]"}, {"SORT list STORE new", ":0"}, {"SORT list STORE str", ":0"}, {"SORT list BOGUS", "-" + syntax}, {"DBSIZE", ":0"}, {"FLUSHDB", "+OK"}, {"FLUSHDB ASYNC", "+OK"}, {"FLUSHDB sync", "+OK"}, {"FLUSHDB BOGUS", "-" + syntax}, {"FLUSHALL BOGUS", "-" + syntax}, {"SWAPDB 1 1", "+OK"}, {fmt.Sprintf("SWAPDB 0 %d", db), "-" + noDB}, {"NONE", "-" + unknown},
		} {
			p := withKeys(t)
			before := p.unused() + p.uses(0) + p.uses(1) + p.uses(2)
			p.wantIn(db, c.line, c.want)
			if got := p.unused() + p.uses(0) + p.uses(1) + p.uses(2); got != before {
				t.Errorf("%s in %d changed\n%s\ninto\n%s", c.line, db, before, got)
			}
		}
		p := withKeys(t)
		p.wantIn(db, "SWAPDB 0 1", "+OK")
		p.wantIn(1, "EXISTS str", ":1")
		p.wantIn(db, "FLUSHALL", "+OK")
		if p.sp.Len(-1) != 0 {
			t.Errorf("FLUSHALL in %d leaves %d keys", db, p.sp.Len(-1))
		}
	}
}

// TestKY1Size: DBSIZE of each database, with keys that have expired.
func TestKY1Size(t *testing.T) {
	p := withKeys(t)
	uses := p.uses(0)
	p.keeps(":7", "DBSIZE")
	if got := p.uses(0); got != uses {
		t.Errorf("the uses are %s; want %s", got, uses)
	}
	p.wantIn(1, "DBSIZE", ":2")
	p.wantIn(2, "DBSIZE", ":0")
	p.advance(499)
	p.want("DBSIZE", ":7")
	p.advance(1)
	p.want("DBSIZE", ":6")
	p.want("PEXPIRE str 7", ":1")
	p.advance(7)
	p.want("DBSIZE", ":5")
	p.advance(2493)
	p.want("DBSIZE", ":4")
	p.want("DEL list list none", ":1")
	p.want("DBSIZE", ":3")
}

// TestKY1Flush: FLUSHDB and FLUSHALL with each word in any letters, and with another one.
func TestKY1Flush(t *testing.T) {
	for _, word := range []string{"", "ASYNC", "SYNC", "async", "sync", "aSyNc", "sYnC"} {
		for db, left := range []string{"1: elsewhere k", "0: hash list other set str timed zset", "0: hash list other set str timed zset, 1: elsewhere k"} {
			p := withKeys(t)
			p.wantIn(db, strings.TrimSpace("FLUSHDB "+word), "+OK")
			if got := p.all(); got != left {
				t.Errorf("FLUSHDB %s in %d leaves %s; want %s", word, db, got, left)
			}
			p.wantIn(db, "FLUSHDB", "+OK")
			p.wantIn(db, strings.TrimSpace("FLUSHALL "+word), "+OK")
			if got := p.all(); got != "" {
				t.Errorf("FLUSHALL %s in %d leaves %s", word, db, got)
			}
			p.give(0, "timed", api.KindString, "x")
			p.due(0, "timed", -1)
		}
	}
	p := withKeys(t)
	for _, name := range []string{"FLUSHDB", "FLUSHALL"} {
		for _, word := range []string{"", "BOGUS", "ASYNCH", " SYNC", "A", "0", "ASYNC SYNC"} {
			p.refusesWords(syntax, name, word)
		}
		p.refuses(name+" ASYNC SYNC", unknown)
	}
}

// all are the keys of all databases that have some.
func (p *trial) all() string {
	var list []string
	for db := range databases {
		if keys := p.sp.Keys(db); len(keys) > 0 {
			list = append(list, fmt.Sprint(db, ": ", strings.Join(keys, " ")))
		}
	}
	return strings.Join(list, ", ")
}

// TestKY1Swap: two databases change places, with all that their keys have; each key has a new mark, none is used; one with itself nothing.
func TestKY1Swap(t *testing.T) {
	for _, line := range []string{"SWAPDB 0 1", "SWAPDB 1 0"} {
		for db := range databases {
			p := withKeys(t)
			here, there := p.uses(0), p.uses(1)
			was := map[string]seen{}
			for _, key := range p.sp.Keys(0) {
				was[key] = seenIn(p.sp, 0, key)
			}
			marks := p.m.marks
			p.wantIn(db, line, "+OK")
			if p.uses(1) != here || p.uses(0) != there {
				t.Errorf("%s: %s and %s; want %s and %s", line, p.uses(0), p.uses(1), there, here)
			}
			for key, old := range was {
				if now := seenIn(p.sp, 1, key); without(now) != without(old) || now.mark <= marks {
					t.Errorf("%s: %s was %v and is %v", line, key, old, now)
				}
			}
			p.due(1, "timed", 4000)
			p.advance(3000)
			p.wantIn(1, "EXISTS timed other str", ":1")
		}
	}
	p := withKeys(t)
	uses := p.uses(0)
	for _, line := range []string{"SWAPDB 0 0", "SWAPDB 1 1", "SWAPDB 2 2"} {
		p.keeps("+OK", split(line)...)
	}
	p.want("SWAPDB 0 2", "+OK")
	p.want("DBSIZE", ":0")
	p.want("SWAPDB 2 0", "+OK")
	for _, word := range append(noNumbers(), "-1", "3", "16", "99", least, greatest) {
		p.refusesWords(noDB, "SWAPDB", "0", word)
		p.refusesWords(noDB, "SWAPDB", word, "0")
		p.refusesWords(noDB, "SWAPDB", word, word)
	}
	if got := p.uses(0); got != uses {
		t.Errorf("the uses are %s; want %s", got, uses)
	}
}

// TestKY1Databases: the last database is the space's own, whether it has one or as many as may be.
func TestKY1Databases(t *testing.T) {
	for _, n := range []int{1, 2, api.MaxSpaces} {
		c := newSpace(someLimits()).Config()
		c.Spaces = n
		sp := spaceOf(c)
		sp.Put(0, "a", made(api.KindString, c.Limits, "x"))
		for _, c := range []struct {
			line string
			db   int
			want string
		}{
			{"MOVE a %d", n, "-" + noDB}, {"COPY a b DB %d", n, "-" + noDB}, {"SWAPDB 0 %d", n, "-" + noDB}, {"SWAPDB %d 0", n, "-" + noDB}, {"COPY a b DB %d", n - 1, ":1"}, {"SWAPDB 0 %d", n - 1, "+OK"}, {"SWAPDB %d 0", n - 1, "+OK"},
		} {
			if got := told(Do(sp, 0, split(fmt.Sprintf(c.line, c.db)))); got != c.want {
				t.Errorf("of %d databases: "+c.line+": %s; want %s", n, c.db, got, c.want)
			}
		}
		want := ":1"
		if n == 1 {
			want = "-" + sameOne
		}
		if got := told(Do(sp, 0, split(fmt.Sprintf("MOVE a %d", n-1)))); got != want {
			t.Errorf("of %d databases: MOVE to the last: %s; want %s", n, got, want)
		}
	}
}
