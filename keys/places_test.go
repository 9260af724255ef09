package keys

import (
	"fmt"
	"strings"
	"testing"

	"cistern/api"
	"cistern/hashes"
	"cistern/keyspace"
	"cistern/lists"
	"cistern/sets"
	"cistern/texts"
	"cistern/zsets"
)

// without is what is seen of a key but for its mark and its use.
func without(s seen) string { return fmt.Sprintf("%d %s %d", s.kind, s.shows, s.due) }

// TestKY1Rename: RENAME and RENAMENX to a key that is not there: value and expiry come with it, the mark is new, it is used.
func TestKY1Rename(t *testing.T) {
	for _, c := range []struct{ name, want string }{{"RENAME", "+OK"}, {"RENAMENX", ":1"}} {
		for _, kind := range kinds {
			for _, due := range []int{-1, 5000} {
				p := withKeys(t)
				p.give(0, "k", kind, "3", "1", "a long member of it")
				if due > 0 {
					p.expire(0, "k", due)
				}
				was := seenIn(p.sp, 0, "k")
				v, _ := p.sp.Peek(0, "k")
				p.want("TOUCH str", ":1")
				p.want(c.name+" k new", c.want)
				now := seenIn(p.sp, 0, "new")
				if without(now) != without(was) || now.mark <= was.mark || now.idle != 0 {
					t.Errorf("%s: %v has become %v", c.name, was, now)
				}
				if w, _ := p.sp.Peek(0, "new"); v != w {
					t.Errorf("%s: new has another value", c.name)
				}
				p.want("EXISTS k", ":0")
				if p.sp.Mark(0, "k") != 0 {
					t.Errorf("%s: k has a mark", c.name)
				}
				p.wantIn(1, "EXISTS k", ":1")
			}
		}
	}
}

// TestKY1RenameOnto: RENAME onto a key that is there, of whatever kind, with an expiry or without: nothing of it is left; RENAMENX leaves both.
func TestKY1RenameOnto(t *testing.T) {
	for _, kind := range kinds {
		for _, to := range []string{"str", "list", "set", "zset", "hash", "timed"} {
			for _, due := range []int{-1, 5000} {
				p := withKeys(t)
				p.give(0, "k", kind, "7", "8")
				if due > 0 {
					p.expire(0, "k", due)
				}
				uses := p.uses(0)
				p.keeps(":0", "RENAMENX", "k", to)
				if got := p.uses(0); got != uses {
					t.Errorf("RENAMENX k %s: %s; want %s", to, got, uses)
				}
				was := seenIn(p.sp, 0, "k")
				n := p.sp.Len(0)
				p.want("RENAME k "+to, "+OK")
				if now := seenIn(p.sp, 0, to); without(now) != without(was) || now.mark <= was.mark || now.idle != 0 {
					t.Errorf("%v has become %v under %s", was, now, to)
				}
				if p.sp.Len(0) != n-1 {
					t.Errorf("there are %d keys behind RENAME k %s; want %d", p.sp.Len(0), to, n-1)
				}
			}
		}
	}
}

// TestKY1RenameItself: onto itself nothing changes, nor is it used.
func TestKY1RenameItself(t *testing.T) {
	p := withKeys(t)
	uses := p.uses(0)
	for _, key := range []string{"str", "list", "timed"} {
		p.keeps("+OK", "RENAME", key, key)
		p.keeps(":0", "RENAMENX", key, key)
	}
	if got := p.uses(0); got != uses {
		t.Errorf("the uses are %s; want %s", got, uses)
	}
}

// TestKY1RenameNone: of a key that is not there, to whatever.
func TestKY1RenameNone(t *testing.T) {
	p := withKeys(t)
	uses := p.uses(0)
	for _, name := range []string{"RENAME", "RENAMENX"} {
		for _, to := range []string{"new", "none", "str", "timed", strings.Repeat("k", maxKey+1)} {
			p.refusesWords(noKey, name, "none", to)
			p.refusesWords(noKey, name, "elsewhere", to)
			p.refusesWords(noKey, name, strings.Repeat("k", maxKey+1), to)
		}
	}
	if got := p.uses(0); got != uses {
		t.Errorf("the uses are %s; want %s", got, uses)
	}
}

// TestKY1RenameLong: to a key of so many bytes as may be, and one more.
func TestKY1RenameLong(t *testing.T) {
	longest := strings.Repeat("k", maxKey)
	p := withKeys(t)
	p.refusesWords(tooLarge, "RENAME", "timed", longest+"k")
	p.refusesWords(tooLarge, "RENAMENX", "timed", longest+"k")
	p.wantWords("+OK", "RENAME", "timed", longest)
	p.due(0, longest, 4000)
	p.wantWords(":1", "RENAMENX", longest, "")
	p.due(0, "", 4000)
	p.wantWords(":1", "RENAMENX", "", "a\x00\xff")
}

// TestKY1Copy: a copy has what the first holds, as it is kept, expires when that does, and is changed and used; the first is used, and stays as it was.
func TestKY1Copy(t *testing.T) {
	for _, kind := range kinds {
		for _, due := range []int{-1, 5000} {
			for _, line := range []string{"new", "new REPLACE", "new replace Replace REPLACE", "new DB 0", "new db 0 REPLACE", "list REPLACE", "timed REPLACE", "new DB 1", "k Db 1 replace", "k REPLACE DB 1", "k DB 2"} {
				p := withKeys(t)
				p.give(0, "k", kind, "3", "1", "a long member of it")
				if due > 0 {
					p.expire(0, "k", due)
				}
				was := seenIn(p.sp, 0, "k")
				p.want("TOUCH str", ":1")
				p.want("COPY k "+line, ":1")
				db := 0
				if i := strings.Index(strings.ToUpper(line), "DB "); i >= 0 {
					db = int(line[i+3] - '0')
				}
				copied := seenIn(p.sp, db, strings.Fields(line)[0])
				if without(copied) != without(was) || copied.mark <= was.mark || copied.idle != 0 {
					t.Errorf("COPY k %s: %v of %v", line, copied, was)
				}
				if now := seenIn(p.sp, 0, "k"); without(now) != without(was) || now.mark != was.mark || now.idle != 1 {
					t.Errorf("COPY k %s: %v has become %v", line, was, now)
				}
			}
		}
	}
}

// TestKY1CopyNot: onto a key that is there without REPLACE nothing changes, but that the first is used; of one that is not there nothing at all.
func TestKY1CopyNot(t *testing.T) {
	p := withKeys(t)
	for _, line := range []string{"COPY str list", "COPY str timed", "COPY str list DB 0", "COPY str k DB 1", "COPY str elsewhere db 1"} {
		p.want("TOUCH hash", ":1")
		p.keeps(":0", split(line)...)
		if got := p.sp.Idle(0, "str"); got != 0 {
			t.Errorf("%s: str is idle for %d", line, got)
		}
		if got := p.sp.Idle(0, "hash"); got != 1 {
			t.Errorf("%s: %d uses", line, got)
		}
	}
	uses, there := p.uses(0), p.uses(1)
	for _, line := range []string{"COPY none new", "COPY none list", "COPY none list REPLACE", "COPY elsewhere new", "COPY none k DB 1 REPLACE", "COPY none none DB 2"} {
		p.keeps(":0", split(line)...)
	}
	if p.uses(0) != uses || p.uses(1) != there {
		t.Errorf("the uses are %s; want %s", p.uses(0), uses)
	}
}

// TestKY1CopySame: onto itself in one database, said or not, also where it is not there; in another one it may be.
func TestKY1CopySame(t *testing.T) {
	p := withKeys(t)
	uses := p.uses(0)
	for _, key := range []string{"str", "timed", "none", ""} {
		p.refusesWords(sameOne, "COPY", key, key)
		p.refusesWords(sameOne, "COPY", key, key, "REPLACE")
		p.refusesWords(sameOne, "COPY", key, key, "DB", "0")
		p.refusesWords(sameOne, "COPY", key, key, "REPLACE", "DB", "0")
		p.refusesWords(sameOne, "COPY", key, key, "DB", "0", "REPLACE")
	}
	if got := p.uses(0); got != uses {
		t.Errorf("the uses are %s; want %s", got, uses)
	}
	p.wantIn(1, "COPY k k DB 1", "-"+sameOne)
	p.wantIn(1, "COPY k k", "-"+sameOne)
	p.want("COPY timed timed DB 1", ":1")
	p.due(1, "timed", 4000)
	p.want("COPY timed timed DB 1", ":0")
	p.want("COPY timed timed DB 1 REPLACE", ":1")
	p.wantIn(1, "COPY k k DB 0", ":1")
}

// TestKY1CopyOptions: words that are none, and database words that are none, where they are read.
func TestKY1CopyOptions(t *testing.T) {
	for _, key := range []string{"str", "none"} {
		p := withKeys(t)
		for _, options := range []string{"BOGUS", "''", "DB", "REPLACE DB", "DB 1 BOGUS", "DB 1 DB", "REPLACED", "REPLACE 1", "1", "D B", "DB 0 0", "BOGUS REPLACE", "BOGUS DB 99", "REPLACE BOGUS DB", "INTO 1", "NX"} {
			p.refuses("COPY "+key+" new "+options, syntax)
		}
		for _, word := range append(noNumbers(), "-1", "3", "16", "99", least, greatest, "DB", "REPLACE") {
			p.refusesWords(noDB, "COPY", key, "new", "DB", word)
			p.refusesWords(noDB, "COPY", key, "new", "db", word, "REPLACE")
			p.refusesWords(noDB, "COPY", key, "new", "REPLACE", "DB", word)
			p.refusesWords(noDB, "COPY", key, "new", "DB", word, "BOGUS")
			p.refusesWords(noDB, "COPY", key, key, "DB", word)
			p.refusesWords(noDB, "COPY", key, "new", "DB", word, "DB")
			p.refusesWords(syntax, "COPY", key, "new", "BOGUS", "DB", word)
			p.refusesWords(unknown, "COPY", key, "new", "DB", word, "DB", "1")
		}
	}
}

// TestKY1CopyLong: a key of so many bytes as may be, and one more: the first has been used by then.
func TestKY1CopyLong(t *testing.T) {
	longest := strings.Repeat("k", maxKey)
	p := withKeys(t)
	p.refusesWords(tooLarge, "COPY", "str", longest+"k")
	if p.sp.Idle(0, "str") != 0 {
		t.Error("str was not used")
	}
	p.refusesWords(tooLarge, "COPY", "timed", longest+"k", "REPLACE")
	p.refusesWords(tooLarge, "COPY", "timed", longest+"k", "DB", "1")
	p.keeps(":0", "COPY", "none", longest+"k")
	p.keeps(":0", "COPY", longest+"k", "new")
	p.wantWords(":1", "COPY", "timed", longest)
	p.due(0, longest, 4000)
}

// TestKY1CopyOwn: the copy is a value of its own: work on the one is not seen in the other, either way.
func TestKY1CopyOwn(t *testing.T) {
	for _, limits := range allLimits() {
		for _, c := range []struct {
			kind int
			do   func(sp *keyspace.Space, db int, args []string) api.Reply
			line string
		}{
			{api.KindString, texts.Do, "APPEND %s more"}, {api.KindString, texts.Do, "SETRANGE %s 0 9"}, {api.KindList, lists.Do, "RPUSH %s 9"}, {api.KindList, lists.Do, "LSET %s 0 9"}, {api.KindList, lists.Do, "LPOP %s"}, {api.KindSet, sets.Do, "SADD %s 9"}, {api.KindSet, sets.Do, "SREM %s 1"}, {api.KindZset, zsets.Do, "ZADD %s 77 1"}, {api.KindZset, zsets.Do, "ZREM %s 1"}, {api.KindHash, hashes.Do, "HSET %s 1 77"}, {api.KindHash, hashes.Do, "HDEL %s 1"},
		} {
			for _, worked := range []string{"a", "b"} {
				sp := newSpace(limits)
				sp.Put(0, "a", made(c.kind, limits, "3", "1", "2", "a long member of it"))
				if got := told(Do(sp, 0, []string{"COPY", "a", "b"})); got != ":1" {
					t.Fatal(got)
				}
				other := map[string]string{"a": "b", "b": "a"}[worked]
				was := seenIn(sp, 0, other)
				if got := told(c.do(sp, 0, split(fmt.Sprintf(c.line, worked)))); got[0] == '-' {
					t.Fatal(got)
				}
				if now := seenIn(sp, 0, other); now.shows != was.shows || now.mark != was.mark {
					t.Errorf(c.line+": %s was %v and is %v", worked, other, was, now)
				}
				if seenIn(sp, 0, worked).shows == was.shows {
					t.Errorf(c.line+" has changed nothing", worked)
				}
			}
		}
	}
}

// TestKY1CopyEnds: a copy goes when the first does; each has an expiry of its own.
func TestKY1CopyEnds(t *testing.T) {
	p := withKeys(t)
	p.want("COPY timed a", ":1")
	p.want("COPY timed b DB 1", ":1")
	p.want("COPY timed c", ":1")
	p.want("PERSIST c", ":1")
	p.want("PEXPIREAT a 5000", ":1")
	p.due(0, "timed", 4000)
	p.advance(2999)
	p.want("EXISTS timed a c", ":3")
	p.wantIn(1, "EXISTS b", ":1")
	p.advance(1)
	p.want("EXISTS timed a c", ":2")
	p.wantIn(1, "EXISTS b", ":0")
	p.advance(1000)
	p.want("EXISTS timed a c", ":1")
	// What was there has no part in it: neither its expiry nor its value.
	p = withKeys(t)
	p.want("COPY list timed REPLACE", ":1")
	p.due(0, "timed", -1)
	p.want("TYPE timed", "+list")
}

// TestKY1CopyThresholds: the copy keeps the encoding of the first, whatever the space's thresholds are by now.
func TestKY1CopyThresholds(t *testing.T) {
	sp := newSpace(someLimits())
	sp.Put(0, "a", made(api.KindSet, someLimits(), "x", "y", "z"))
	c := sp.Config()
	c.Limits = leastLimits()
	sp.Adjust(c)
	for _, line := range []string{"COPY a b", "COPY b a REPLACE", "RENAME a c", "MOVE c 1"} {
		if got := told(Do(sp, 0, split(line))); got[0] == '-' {
			t.Fatalf("%s: %s", line, got)
		}
	}
	for db, key := range []string{"b", "c"} {
		if v, ok := sp.Peek(db, key); !ok || v.Encoding() != "listpack" {
			t.Errorf("%s is there: %v; want it as a listpack", key, ok)
		}
	}
}

// TestKY1Move: to another database the key comes with its value and its expiry, changed and used; where it is there already, or is not here, nothing changes.
func TestKY1Move(t *testing.T) {
	for _, kind := range kinds {
		for _, due := range []int{-1, 5000} {
			p := withKeys(t)
			p.give(0, "m", kind, "3", "1", "a long member of it")
			if due > 0 {
				p.expire(0, "m", due)
			}
			was := seenIn(p.sp, 0, "m")
			p.want("TOUCH str", ":1")
			p.want("MOVE m 2", ":1")
			if now := seenIn(p.sp, 2, "m"); without(now) != without(was) || now.mark <= was.mark || now.idle != 0 {
				t.Errorf("%v has become %v", was, now)
			}
			p.want("EXISTS m", ":0")
			p.keeps(":0", "MOVE", "m", "2")
			p.keeps(":0", "MOVE", "m", "1")
			p.wantIn(2, "MOVE m 0", ":1")
			p.due(0, "m", due)
		}
	}
	p := withKeys(t)
	p.give(0, "k", api.KindString, "x")
	uses, there := p.uses(0), p.uses(1)
	p.keeps(":0", "MOVE", "k", "1")
	p.keeps(":0", "MOVE", "none", "1")
	p.keeps(":0", "MOVE", "elsewhere", "1")
	p.keeps(":0", "MOVE", strings.Repeat("k", maxKey+1), "1")
	for _, key := range []string{"k", "none", "timed"} {
		p.refuses("MOVE "+key+" 0", sameOne)
		for _, word := range append(noNumbers(), "-1", "3", "16", "99", least, greatest) {
			p.refusesWords(noDB, "MOVE", key, word)
		}
	}
	if p.uses(0) != uses || p.uses(1) != there {
		t.Errorf("the uses are %s and %s; want %s and %s", p.uses(0), p.uses(1), uses, there)
	}
	p.wantIn(1, "MOVE k 1", "-"+sameOne)
	p.wantIn(1, "MOVE k 0", ":0")
	p.wantIn(1, "MOVE elsewhere 0", ":1")
}

// TestP10Full: with as many keys as may be in all databases a copy to another key is refused, one onto a key that is there is not; what makes no key more goes on.
func TestP10Full(t *testing.T) {
	limits := someLimits()
	sp := newSpace(limits)
	v := made(api.KindString, limits, "x")
	for i := range maxKeys - 3 {
		sp.Put(i%2, fmt.Sprint("filler", i), v)
	}
	sp.Put(0, "a", made(api.KindList, limits, "2", "1"))
	sp.Put(0, "b", made(api.KindString, limits, "x"))
	sp.Put(2, "c", made(api.KindString, limits, "x"))
	sp.Expire(0, "b", 5000)
	if sp.Len(-1) != maxKeys {
		t.Fatalf("%d keys", sp.Len(-1))
	}
	for _, c := range []struct {
		db         int
		line, want string
	}{
		{0, "COPY a new", "-" + tooMany}, {0, "COPY a a DB 1", "-" + tooMany}, {0, "COPY a new REPLACE", "-" + tooMany}, {0, "SORT a STORE new", "-" + tooMany}, {0, "EXISTS new a b", ":2"}, {0, "PTTL b", ":5000"},
		{0, "COPY a b", ":0"}, {0, "COPY b a REPLACE", ":1"}, {0, "PTTL a", ":5000"}, {2, "COPY c a DB 0 REPLACE", ":1"}, {0, "RENAME a new", "+OK"}, {0, "RENAMENX new a", ":1"}, {0, "MOVE a 2", ":1"}, {2, "MOVE a 0", ":1"}, {0, "SWAPDB 0 2", "+OK"}, {0, "SWAPDB 2 0", "+OK"}, {0, "SORT none STORE new", ":0"},
		{0, "DEL b", ":1"}, {0, "COPY a new", ":1"}, {0, "COPY a new2", "-" + tooMany},
	} {
		before := sp.Len(-1)
		got := told(Do(sp, c.db, split(c.line)))
		if got != c.want {
			t.Fatalf("%s in %d: %s; want %s", c.line, c.db, got, c.want)
		}
		if n := sp.Len(-1); n > maxKeys || got[0] == '-' && n != before {
			t.Fatalf("%s in %d: %d keys have become %d", c.line, c.db, before, n)
		}
	}
	sp.Put(0, "a", made(api.KindList, limits, "2", "1"))
	if got := told(Do(sp, 0, split("SORT a STORE new"))); got != ":2" || sp.Len(-1) != maxKeys {
		t.Errorf("SORT a STORE new: %s, %d keys", got, sp.Len(-1))
	}
}
