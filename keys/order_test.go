package keys

import (
	"fmt"
	"strings"
	"testing"
)

// TestKY1Order: of two checks that fail the one is told that the row names first.
func TestKY1Order(t *testing.T) {
	longKey, pattern := strings.Repeat("k", maxKey+1), strings.Repeat("p", maxPattern+1)
	for _, c := range []struct {
		want string
		args []string
	}{
		{noNumber, []string{"EXPIRE", "none", "x", "ZZ"}}, {noNumber, []string{"PEXPIREAT", "str", "", "zz"}}, {noOption + "ZZ", []string{"EXPIRE", "str", greatest, "ZZ"}}, {noOption + "zz", []string{"PEXPIRE", "none", least, "zz"}}, {noOption + "ZZ", []string{"EXPIREAT", "none", "1", "ZZ"}}, {badTime("expire"), []string{"EXPIRE", "none", greatest}}, {badTime("expireat"), []string{"EXPIREAT", "str", greatest, "XX"}}, {badTime("pexpire"), []string{"pExpire", "timed", least, "NX"}}, {badTime("pexpireat"), []string{"PEXPIREAT", "none", least, "GT"}},
		{noKey, []string{"RENAME", "none", longKey}}, {noKey, []string{"RENAMENX", "none", longKey}}, {noKey, []string{"RENAMENX", "none", "str"}}, {noKey, []string{"RENAMENX", "none", "none"}}, {noKey, []string{"RENAME", "none", "none"}}, {tooLarge, []string{"RENAMENX", "str", longKey}},
		{noDB, []string{"COPY", "none", "none", "DB", "99", "BOGUS"}}, {syntax, []string{"COPY", "none", "none", "BOGUS", "DB", "99"}}, {syntax, []string{"COPY", "none", "none", "BOGUS"}}, {syntax, []string{"COPY", "str", "str", "REPLACE", "DB"}}, {noDB, []string{"COPY", "str", "str", "DB", "99"}}, {noDB, []string{"COPY", "none", longKey, "DB", "x"}}, {sameOne, []string{"COPY", "none", "none"}}, {sameOne, []string{"COPY", longKey, longKey}}, {tooLarge, []string{"COPY", "str", longKey}},
		{noDB, []string{"MOVE", "none", "x"}}, {noDB, []string{"MOVE", "none", "99"}}, {sameOne, []string{"MOVE", "none", "0"}}, {syntax, []string{"KEYS", pattern}},
		{noCursor, []string{"SCAN", "x", "BOGUS"}}, {noCursor, []string{"SCAN", "-1", "COUNT", "0"}}, {noCursor, []string{"SCAN", "", "MATCH", pattern}}, {syntax, []string{"SCAN", "0", "COUNT", "0", "MATCH", pattern}},
		{syntax, []string{"OBJECT", "BOGUS", "none"}}, {syntax, []string{"OBJECT", "", "str"}}, {noUses, []string{"OBJECT", "FREQ", "none"}}, {noUses, []string{"OBJECT", "freq", longKey}},
		{syntax, []string{"SORT", "str", "BOGUS"}}, {syntax, []string{"SORT", "hash", "LIMIT", "x", "y", "BOGUS"}}, {syntax, []string{"SORT", "words", "BOGUS", "LIMIT", "x", "y"}}, {syntax, []string{"SORT", "words", "LIMIT", "x"}}, {noNumber, []string{"SORT", "str", "LIMIT", "x", "1"}}, {noNumber, []string{"SORT", "words", "LIMIT", "1", "x"}}, {noNumber, []string{"SORT", "hash", "LIMIT", "x", "y", "STORE", longKey}}, {wrongType, []string{"SORT", "str", "STORE", longKey}}, {wrongType, []string{"SORT", "hash", "LIMIT", "0", "0", "STORE", "str"}}, {noDouble, []string{"SORT", "words", "STORE", longKey}}, {noDouble, []string{"SORT", "words", "LIMIT", "0", "0"}}, {tooLarge, []string{"SORT", "list", "STORE", longKey}},
		{syntax, []string{"FLUSHDB", "BOGUS"}}, {syntax, []string{"FLUSHALL", ""}}, {noDB, []string{"SWAPDB", "x", "99"}}, {noDB, []string{"SWAPDB", "0", "x"}}, {noDB, []string{"SWAPDB", "99", "0"}},
		{unknown, []string{"COPY", "str", "str", "DB", "99", "BOGUS", "BOGUS"}}, {unknown, []string{"EXPIRE", "str", "x", "ZZ", "ZZ"}}, {unknown, []string{"SCAN", "x", "a", "b", "c", "d", "e", "f", "g"}}, {unknown, []string{"FLUSHDB", "BOGUS", "BOGUS"}}, {unknown, []string{"BOGUS", "str", "x"}},
	} {
		p := withKeys(t)
		p.give(0, "words", 2, "1", "two")
		p.refusesWords(c.want, c.args...)
	}
}

// TestKY1OrderEnds: what is told of a key that is not there, or that is, ahead of what comes behind it in the row.
func TestKY1OrderEnds(t *testing.T) {
	longKey := strings.Repeat("k", maxKey+1)
	p := withKeys(t)
	p.keeps(":0", "RENAMENX", "str", "str")
	p.keeps(":0", "COPY", "none", longKey)
	p.keeps(":0", "COPY", "none", "str")
	p.keeps(":0", "MOVE", "none", "1")
	p.keeps(":0", "EXPIRE", "none", "0")
	p.keeps(":0", "PEXPIRE", "none", "-5", "NX")
	p.keeps("_", "OBJECT", "ENCODING", "none")
	p.wantWords(":0", "SORT", "none", "STORE", longKey)
}

// TestKY1Traces: what becomes of the expiry, the mark and the uses of all keys by each command. The key a is a list 2, 1 with the mark 2 and the expiry 5000, b a string with the mark 3, c, in database 1, one with the mark 4; uses count from the last one.
func TestKY1Traces(t *testing.T) {
	const a, b, c = "a due 5000 mark 2 idle 2", "b due -1 mark 3 idle 1", "1/c due -1 mark 4 idle 0"
	join := func(parts ...string) string { return strings.Join(parts, ", ") }
	same := join(a, b, c)
	for _, k := range []struct{ line, want string }{
		{"EXISTS a b", same}, {"TYPE a", same}, {"TTL a", same}, {"PTTL b", same}, {"EXPIRETIME a", same}, {"PEXPIRETIME a", same}, {"KEYS *", same}, {"SCAN 0", same}, {"SCAN 0 TYPE list", same}, {"RANDOMKEY", same}, {"OBJECT ENCODING a", same}, {"OBJECT IDLETIME a", same}, {"OBJECT REFCOUNT a", same}, {"OBJECT FREQ a", same}, {"DBSIZE", same}, {"PERSIST b", same}, {"PERSIST none", same}, {"DEL none", same}, {"UNLINK none", same}, {"TOUCH none", same}, {"EXPIRE none 5", same}, {"EXPIRE a 1 NX", same}, {"EXPIRE b 1 XX", same}, {"EXPIRE a 5 GT", same}, {"EXPIRE a 5 LT", same}, {"RENAME a a", same}, {"RENAMENX a a", same}, {"RENAMENX a b", same}, {"RENAME none a", same}, {"COPY none b REPLACE", same}, {"COPY a a", same}, {"MOVE a 0", same}, {"MOVE none 1", same}, {"MOVE a 99", same}, {"SWAPDB 0 0", same}, {"SORT none", same}, {"SORT none STORE none", same}, {"SORT a BOGUS", same},
		{"DEL a", join(b, c)}, {"UNLINK b a", c}, {"TOUCH a", join("a due 5000 mark 2 idle 0", "b due -1 mark 3 idle 2", "1/c due -1 mark 4 idle 1")}, {"TOUCH b a b", join("a due 5000 mark 2 idle 1", "b due -1 mark 3 idle 0", "1/c due -1 mark 4 idle 3")},
		{"EXPIRE a 7", join("a due 7000 mark 5 idle 2", b, c)}, {"EXPIRE b 7", join(a, "b due 7000 mark 5 idle 1", c)}, {"PEXPIREAT a 5000", join("a due 5000 mark 5 idle 2", b, c)}, {"EXPIRE a 0", join(b, c)}, {"PERSIST a", join("a due -1 mark 5 idle 2", b, c)},
		{"RENAME a x", join("b due -1 mark 3 idle 2", "x due 5000 mark 5 idle 0", "1/c due -1 mark 4 idle 1")}, {"RENAME a b", join("b due 5000 mark 5 idle 0", "1/c due -1 mark 4 idle 1")}, {"RENAME b a", join("a due -1 mark 5 idle 0", "1/c due -1 mark 4 idle 1")}, {"RENAMENX b x", join("a due 5000 mark 2 idle 3", "x due -1 mark 5 idle 0", "1/c due -1 mark 4 idle 1")},
		{"COPY b x", join("a due 5000 mark 2 idle 4", "b due -1 mark 3 idle 1", "x due -1 mark 5 idle 0", "1/c due -1 mark 4 idle 2")}, {"COPY a x", join("a due 5000 mark 2 idle 1", "b due -1 mark 3 idle 3", "x due 5000 mark 6 idle 0", "1/c due -1 mark 4 idle 2")}, {"COPY a b", join("a due 5000 mark 2 idle 0", "b due -1 mark 3 idle 2", "1/c due -1 mark 4 idle 1")}, {"COPY b a REPLACE", join("a due -1 mark 5 idle 0", "b due -1 mark 3 idle 1", "1/c due -1 mark 4 idle 2")}, {"COPY a c DB 1 REPLACE", join("a due 5000 mark 2 idle 1", "b due -1 mark 3 idle 3", "1/c due 5000 mark 6 idle 0")}, {"COPY a c DB 1", join("a due 5000 mark 2 idle 0", "b due -1 mark 3 idle 2", "1/c due -1 mark 4 idle 1")},
		{"MOVE a 1", join("b due -1 mark 3 idle 2", "1/a due 5000 mark 5 idle 0", "1/c due -1 mark 4 idle 1")}, {"SORT a", join("a due 5000 mark 2 idle 0", "b due -1 mark 3 idle 2", "1/c due -1 mark 4 idle 1")}, {"SORT b", join("a due 5000 mark 2 idle 3", "b due -1 mark 3 idle 0", "1/c due -1 mark 4 idle 1")}, {"SORT a STORE a", join("a due -1 mark 5 idle 0", "b due -1 mark 3 idle 3", "1/c due -1 mark 4 idle 2")}, {"SORT a STORE x", join("a due 5000 mark 2 idle 1", "b due -1 mark 3 idle 3", "x due -1 mark 5 idle 0", "1/c due -1 mark 4 idle 2")}, {"SORT none STORE a", join(b, c)}, {"SORT a LIMIT 0 0 STORE a", join("b due -1 mark 3 idle 2", "1/c due -1 mark 4 idle 1")},
		{"FLUSHDB", c}, {"FLUSHALL", ""}, {"SWAPDB 0 1", join("c due -1 mark 5 idle 0", "1/a due 5000 mark 6 idle 2", "1/b due -1 mark 7 idle 1")}, {"SWAPDB 1 2", join(a, b, "2/c due -1 mark 5 idle 0")},
	} {
		p := newTrial(t, someLimits())
		p.give(0, "a", 2, "2", "1")
		p.expire(0, "a", 5000)
		p.give(0, "b", 1, "x")
		p.give(1, "c", 1, "x")
		p.ask(split(k.line)...)
		var got []string
		for db := range databases {
			for _, key := range p.sp.Keys(db) {
				s := seenIn(p.sp, db, key)
				place := ""
				if db > 0 {
					place = fmt.Sprint(db, "/")
				}
				got = append(got, fmt.Sprintf("%s%s due %d mark %d idle %d", place, key, s.due, s.mark, s.idle))
			}
		}
		if join(got...) != k.want {
			t.Errorf("%s: %s; want %s", k.line, join(got...), k.want)
		}
	}
}
