package texts

import (
	"fmt"
	"strings"
	"testing"

	"cistern/api"
)

// TestP14_1Kinds: what each command tells of a key that is not there, that is a string of digits, and that is of another kind.
func TestP14_1Kinds(t *testing.T) {
	wrong := "-" + wrongType
	for _, c := range []struct{ line, none, text, other string }{
		{"SET k v", "+OK", "+OK", "+OK"}, {"SET k v NX", "+OK", "_", "_"}, {"SET k v XX", "_", "+OK", "+OK"}, {"SET k v GET", "_", "$12", wrong}, {"SET k v NX GET", "_", "$12", wrong}, {"SET k v XX GET", "_", "$12", wrong}, {"SET k v EX 5", "+OK", "+OK", "+OK"}, {"SET k v KEEPTTL", "+OK", "+OK", "+OK"},
		{"GET k", "_", "$12", wrong}, {"GETSET k v", "_", "$12", wrong}, {"GETDEL k", "_", "$12", wrong}, {"GETEX k", "_", "$12", wrong}, {"GETEX k EX 5", "_", "$12", wrong}, {"GETEX k PERSIST", "_", "$12", wrong},
		{"SETNX k v", ":1", ":0", ":0"}, {"SETEX k 5 v", "+OK", "+OK", "+OK"}, {"PSETEX k 5 v", "+OK", "+OK", "+OK"}, {"MGET k s", "*_ $1", "*$12 $1", "*_ $1"}, {"MSET k v", "+OK", "+OK", "+OK"}, {"MSETNX k v", ":1", ":0", ":0"},
		{"STRLEN k", ":0", ":2", wrong}, {"APPEND k v", ":1", ":3", wrong}, {"APPEND k ''", ":0", ":2", wrong}, {"INCR k", ":1", ":13", wrong}, {"DECR k", ":-1", ":11", wrong}, {"INCRBY k 5", ":5", ":17", wrong}, {"DECRBY k 5", ":-5", ":7", wrong},
		{"GETRANGE k 0 0", "$", "$1", wrong}, {"SETRANGE k 1 v", ":2", ":2", wrong}, {"SETRANGE k 1 ''", ":0", ":2", wrong}, {"GETBIT k 2", ":0", ":1", wrong}, {"SETBIT k 2 1", ":0", ":1", wrong}, {"BITCOUNT k", ":0", ":6", wrong}, {"BITCOUNT k 0 0", ":0", ":3", wrong}, {"BITPOS k 1", ":-1", ":2", wrong}, {"BITPOS k 0", ":0", ":0", wrong},
		{"BITOP AND k s", ":1", ":1", ":1"}, {"BITOP AND d k", ":0", ":2", wrong}, {"BITOP OR d s k", ":1", ":2", wrong}, {"BITOP XOR k k", ":0", ":2", wrong}, {"BITOP NOT d k", ":0", ":2", wrong},
	} {
		p := begun(t)
		p.want("SET s 1", "+OK")
		p.want(c.line, c.none)
		p = begun(t)
		p.want("MSET s 1 k 12", "+OK")
		p.want(c.line, c.text)
		for _, kind := range kinds[1:] {
			p = begun(t)
			p.want("SET s 1", "+OK")
			p.give(0, "k", kind)
			p.expire(0, "k", 7000)
			if c.other == wrong {
				p.refuses(c.line, wrongType)
			} else {
				p.want(c.line, c.other)
			}
		}
	}
}

// TestP14_1Order: of two checks that fail the one is told that the row names first.
func TestP14_1Order(t *testing.T) {
	long, key := strings.Repeat("v", api.MaxElement+1), strings.Repeat("k", api.MaxKey+1)
	for _, c := range []struct {
		want string
		args []string
	}{
		{syntax, []string{"SET", "l", long, "GET", "EX", "0", "BOGUS"}}, {badTime("set"), []string{"SET", "l", long, "EX", "0", "GET"}}, {noNumber, []string{"SET", "l", long, "EX", "x", "GET"}}, {wrongType, []string{"SET", "l", long, "EX", "5", "GET"}}, {tooLarge, []string{"SET", "l", long, "EX", "5"}},
		{wrongType, []string{"GETSET", "l", long}}, {tooLarge, []string{"GETSET", "s", long}}, {tooLarge, []string{"GETSET", key, "v"}},
		{syntax, []string{"GETEX", "l", "EX", "0", "PERSIST"}}, {badTime("getex"), []string{"GETEX", "l", "PX", "0"}}, {noNumber, []string{"GETEX", "l", "PX", ""}}, {wrongType, []string{"GETEX", "l", "PX", "1"}},
		{tooLarge, []string{"SETNX", "none", long}}, {tooLarge, []string{"SETNX", key, "v"}},
		{noNumber, []string{"SETEX", key, "x", long}}, {badTime("setex"), []string{"SETEX", key, "-5", long}}, {tooLarge, []string{"SETEX", "l", "5", long}},
		{badPairs("mset"), []string{"MSET", key, long, "a"}}, {badPairs("msetnx"), []string{"MSETNX", "l", "1", "a"}}, {badPairs("msetnx"), []string{"MSETNX", key, long, "a"}}, {tooLarge, []string{"MSETNX", "none", long}},
		{wrongType, []string{"APPEND", "l", long}}, {tooLong, []string{"APPEND", "s", long}}, {tooLarge, []string{"APPEND", "none", long}},
		{noNumber, []string{"INCRBY", "l", "x"}}, {wrongType, []string{"INCRBY", "l", greatest}}, {noNumber, []string{"INCRBY", "s", greatest}}, {noNumber, []string{"DECRBY", "l", "x"}}, {noNegate, []string{"DECRBY", "l", least}}, {noNegate, []string{"DECRBY", "s", least}}, {wrongType, []string{"DECRBY", "l", "1"}},
		{noSum, []string{"INCR", "most"}}, {noSum, []string{"INCRBY", "most", "5"}}, {noSum, []string{"DECRBY", "most", "-5"}}, {tooLarge, []string{"INCR", key}},
		{noNumber, []string{"GETRANGE", "l", "x", "0"}}, {noNumber, []string{"GETRANGE", "l", "0", "x"}}, {wrongType, []string{"GETRANGE", "l", "5", "1"}},
		{noNumber, []string{"SETRANGE", "l", "x", long}}, {noOffset, []string{"SETRANGE", "l", "-1", ""}}, {noOffset, []string{"SETRANGE", "l", "-1", long}}, {wrongType, []string{"SETRANGE", "l", "1", ""}}, {wrongType, []string{"SETRANGE", "l", greatest, "v"}}, {tooLong, []string{"SETRANGE", key, "1", long}}, {tooLarge, []string{"SETRANGE", key, "1", "v"}},
		{noPlace, []string{"GETBIT", "l", "-1"}}, {wrongType, []string{"GETBIT", "l", "4194303"}}, {noPlace, []string{"SETBIT", "l", "4194304", "2"}}, {noBit, []string{"SETBIT", "l", "1", "2"}}, {wrongType, []string{"SETBIT", "l", "1", "1"}}, {tooLarge, []string{"SETBIT", key, "1", "1"}},
		{syntax, []string{"BITCOUNT", "l", "x"}}, {syntax, []string{"BITCOUNT", "l", "x", "1", "y"}}, {noNumber, []string{"BITCOUNT", "l", "x", "1", "BIT"}}, {wrongType, []string{"BITCOUNT", "l", "9", "1", "BIT"}},
		{noSought, []string{"BITPOS", "l", "2", "x", "1", "y"}}, {syntax, []string{"BITPOS", "l", "1", "x", "1", "y"}}, {noNumber, []string{"BITPOS", "l", "1", "x", "1", "BIT"}}, {wrongType, []string{"BITPOS", "l", "1", "9", "1", "BIT"}},
		{syntax, []string{"BITOP", "NOR", key, "l", "s"}}, {oneKey, []string{"BITOP", "NOT", key, "l", "s"}}, {wrongType, []string{"BITOP", "OR", key, "s", "l"}}, {tooLarge, []string{"BITOP", "OR", key, "s"}},
		{unknown, []string{"BITOP", "NOR", "l"}}, {unknown, []string{"SETBIT", "l", "x"}}, {unknown, []string{"INCRBY", "l"}}, {unknown, []string{"SET", "l"}}, {unknown, []string{"GET", "l", "s"}},
	} {
		p := begun(t)
		p.want("MSET s text most 9223372036854775807", "+OK")
		p.give(0, "l", api.KindZset)
		p.refusesWords(c.want, c.args...)
	}
}

// TestLooking: how many uses and marks a command makes: each word that is a key is looked at once, one that is only written not at all.
func TestLooking(t *testing.T) {
	for _, c := range []struct {
		line        string
		uses, marks int
	}{
		// A use by looking, one by Put; a mark by Put, one by Expire.
		{"SET s 1", 2, 1}, {"SET none 1", 1, 1}, {"SET l 1", 2, 1}, {"SET s 1 GET", 2, 1}, {"SET s 1 NX", 1, 0}, {"SET none 1 XX", 0, 0}, {"SET s 1 XX GET", 2, 1}, {"SET l 1 GET", 1, 0}, {"SET s 1 EX 5", 2, 2}, {"SET s 1 KEEPTTL", 2, 2}, {"SET l 1 KEEPTTL", 2, 1}, {"SET none 1 KEEPTTL", 1, 1}, {"SET s 1 EX 0", 0, 0}, {"SET s 1 NX XX", 0, 0},
		{"GET s", 1, 0}, {"GET none", 0, 0}, {"GET l", 1, 0}, {"GETSET s 1", 2, 1}, {"GETSET none 1", 1, 1}, {"GETSET l 1", 1, 0}, {"GETDEL s", 1, 0}, {"GETDEL l", 1, 0}, {"GETEX s", 1, 0}, {"GETEX s EX 5", 1, 1}, {"GETEX s PERSIST", 1, 1}, {"GETEX n PERSIST", 1, 0}, {"GETEX s EX 0", 0, 0}, {"GETEX l PERSIST", 1, 0},
		{"SETNX s 1", 1, 0}, {"SETNX none 1", 1, 1}, {"SETEX s 5 1", 1, 2}, {"SETEX none 5 1", 1, 2}, {"PSETEX l 5 1", 1, 2}, {"SETEX s 0 1", 0, 0},
		{"MGET s n l none", 3, 0}, {"MGET s s s", 3, 0}, {"MSET s 1 l 2 none 3", 3, 3}, {"MSET s 1 s 2", 2, 2}, {"MSET s 1 l", 0, 0}, {"MSETNX a 1 b 2", 2, 2}, {"MSETNX a 1 s 2 l 3", 1, 0}, {"MSETNX s 1 l 2", 1, 0}, {"MSETNX a 1 a 2", 2, 2},
		{"STRLEN s", 1, 0}, {"STRLEN l", 1, 0}, {"APPEND s x", 1, 1}, {"APPEND s ''", 1, 1}, {"APPEND none x", 1, 1}, {"INCR n", 1, 1}, {"INCR none", 1, 1}, {"INCR s", 1, 0}, {"INCRBY n 0", 1, 1}, {"INCRBY n x", 0, 0}, {"DECRBY n 1", 1, 1}, {"DECRBY n -9223372036854775808", 0, 0}, {"DECR l", 1, 0},
		{"GETRANGE s 0 1", 1, 0}, {"GETRANGE s x 1", 0, 0}, {"SETRANGE s 1 x", 1, 1}, {"SETRANGE s 1 ''", 1, 0}, {"SETRANGE s -1 x", 0, 0}, {"SETRANGE s 524288 x", 1, 0}, {"SETRANGE none 1 x", 1, 1}, {"SETRANGE none 1 ''", 0, 0},
		{"GETBIT s 1", 1, 0}, {"GETBIT s -1", 0, 0}, {"SETBIT s 1 1", 1, 1}, {"SETBIT s 1 2", 0, 0}, {"SETBIT none 1 0", 1, 1}, {"BITCOUNT s", 1, 0}, {"BITCOUNT s 1", 0, 0}, {"BITCOUNT s 0 1 BIT", 1, 0}, {"BITPOS s 1", 1, 0}, {"BITPOS s 2", 0, 0}, {"BITPOS l 1", 1, 0},
		{"BITOP AND s n", 2, 1}, {"BITOP AND s s", 2, 1}, {"BITOP OR d s n s", 4, 1}, {"BITOP OR l s none", 2, 1}, {"BITOP OR d s l n", 2, 0}, {"BITOP NOT s none", 0, 0}, {"BITOP NOT d s", 2, 1}, {"BITOP NOT d s n", 0, 0}, {"BITOP BUT d s n", 0, 0},
		{"FLY s", 0, 0}, {"GET s s", 0, 0},
	} {
		p := begun(t)
		p.want("SET n 5", "+OK")
		p.give(0, "l", api.KindList)
		p.want("SET s text", "+OK")
		p.expire(0, "s", 5000)
		p.askIn(1, "SET", "probe", "1")
		mark := p.sp.Mark(1, "probe")
		p.ask(split(c.line)...)
		uses := p.sp.Idle(1, "probe")
		p.askIn(1, "SET", "next", "1")
		if marks := p.sp.Mark(1, "next") - mark - 1; uses != c.uses || marks != c.marks {
			t.Errorf("%s: %d uses, %d marks; want %d, %d", c.line, uses, marks, c.uses, c.marks)
		}
	}
}

// TestNoDatabase: a database that is none has no keys, and takes none.
func TestNoDatabase(t *testing.T) {
	for _, db := range []int{-1, 2, 16, 1 << 40, -1 << 63} {
		p := begun(t)
		p.want("SET s 12", "+OK")
		for _, c := range []struct{ line, want string }{
			{"GET s", "_"}, {"MGET s s", "*_ _"}, {"STRLEN s", ":0"}, {"SET s 1", "-" + syntax}, {"SET s 1 XX", "_"}, {"SET s 1 GET", "-" + syntax}, {"MSET s 1 t 2", "-" + syntax}, {"MSETNX s 1", "-" + syntax}, {"SETNX s 1", "-" + syntax}, {"SETEX s 5 1", "-" + syntax}, {"GETSET s 1", "-" + syntax}, {"GETDEL s", "_"}, {"GETEX s EX 5", "_"}, {"INCR s", "-" + syntax}, {"APPEND s x", "-" + syntax}, {"SETRANGE s 0 x", "-" + syntax}, {"SETRANGE s 0 ''", ":0"}, {"SETBIT s 0 1", "-" + syntax}, {"BITOP NOT d s", ":0"}, {"BITPOS s 0", ":0"}, {"BITCOUNT s", ":0"}, {"GETRANGE s 0 -1", "$"},
		} {
			if got := p.askIn(db, split(c.line)...); got != c.want {
				t.Errorf("%s in %d: %s; want %s", c.line, db, got, c.want)
			}
		}
	}
}

// TestDatabases: a command sees the keys of its database alone.
func TestDatabases(t *testing.T) {
	p := newTrial(t)
	for _, sample := range samples() {
		for db := range 2 {
			p.askIn(1-db, "MSET", "s", fmt.Sprint(db), "t", "345")
			p.askIn(db, "MSET", "s", "12", "t", "7")
			p.askIn(db, "GETDEL", "k")
			p.askIn(db, split(sample)...)
		}
	}
}
