package hashes

import (
	"fmt"
	"strings"
	"testing"

	"cistern/api"
)

// TestHA1Kinds: what each command tells of a key that is not there, that is a hash of a 1, b 2, c text, and that is of another kind.
func TestHA1Kinds(t *testing.T) {
	wrong := "-" + wrongType
	for _, c := range []struct{ line, none, hash string }{
		{"HSET k a 9 x 8", ":2", ":1"}, {"HSET k a 1", ":1", ":0"}, {"HMSET k a 9 x 8", "+OK", "+OK"}, {"HMSET k a 1", "+OK", "+OK"}, {"HSETNX k a 9", ":1", ":0"}, {"HSETNX k x 9", ":1", ":1"},
		{"HGET k a", "_", "$1"}, {"HGET k x", "_", "_"}, {"HMGET k a x c", "[_ _ _]", "[$1 _ $text]"}, {"HDEL k a x", ":0", ":1"}, {"HDEL k x", ":0", ":0"}, {"HDEL k a b c", ":0", ":3"},
		{"HLEN k", ":0", ":3"}, {"HEXISTS k a", ":0", ":1"}, {"HEXISTS k x", ":0", ":0"}, {"HSTRLEN k c", ":0", ":4"}, {"HSTRLEN k x", ":0", ":0"},
		{"HKEYS k", "[]", "[$a $b $c]"}, {"HVALS k", "[]", "[$1 $2 $text]"}, {"HGETALL k", "{}", "{$a $1 $b $2 $c $text}"}, {"HINCRBY k a 5", ":5", ":6"}, {"HINCRBY k x -5", ":-5", ":-5"}, {"HINCRBY k c 1", ":1", "-" + noInteger},
		{"HRANDFIELD k", "_", "$c"}, {"HRANDFIELD k 0", "[]", "[]"}, {"HRANDFIELD k 2", "[]", "[$c $b]"}, {"HRANDFIELD k 3", "[]", "[$a $b $c]"}, {"HRANDFIELD k -3", "[]", "[$c $a $a]"}, {"HRANDFIELD k 2 WITHVALUES", "[]", "[$c $text $b $2]"}, {"HRANDFIELD k 9 WITHVALUES", "[]", "[$a $1 $b $2 $c $text]"}, {"HRANDFIELD k -2 WITHVALUES", "[]", "[$c $text $a $1]"},
		{"HSCAN k 0", "[$0 []]", "[$0 [$a $1 $b $2 $c $text]]"}, {"HSCAN k 77 MATCH [bc] COUNT 1", "[$0 []]", "[$0 [$b $2 $c $text]]"}, {"HSCAN k 0 NOVALUES", "[$0 []]", "[$0 [$a $b $c]]"},
	} {
		p := begun(t)
		p.want(c.line, c.none)
		p = begun(t)
		p.want("HSET k a 1 b 2 c text", ":3")
		p.expire(0, "k", 7000)
		p.want(c.line, c.hash)
		for _, kind := range others() {
			p = begun(t)
			p.give(0, "k", kind)
			p.expire(0, "k", 7000)
			p.keeps(wrong, split(c.line)...)
		}
	}
}

// TestHA1Order: of two checks that fail the one is told that the row names first.
func TestHA1Order(t *testing.T) {
	long, key, pattern := strings.Repeat("v", api.MaxElement+1), strings.Repeat("k", api.MaxKey+1), strings.Repeat("p", api.MaxPattern+1)
	for _, c := range []struct {
		want string
		args []string
	}{
		{noPairs, []string{"HSET", "w", "a", "1", "b"}}, {noPairs, []string{"HSET", "w", long, "1", "b"}}, {noPairs, []string{"HSET", "h", "a", long, "b"}}, {noPairs, []string{"HSET", key, "a", "1", "b"}}, {wrongType, []string{"HSET", "w", long, "1"}}, {wrongType, []string{"HSET", "w", "a", long}}, {wrongType, []string{"HSET", "w", "a", "1", "b", long}}, {tooLarge, []string{"HSET", key, "a", long}}, {tooLarge, []string{"HSET", "h", long, "1", "a", "2"}},
		{noPairsM, []string{"HMSET", "w", "a", "1", "b"}}, {noPairsM, []string{"HMSET", "h", long, long, "b"}}, {noPairsM, []string{"HMSET", key, "a", "1", "b"}}, {wrongType, []string{"HMSET", "w", "a", long}}, {tooLarge, []string{"HMSET", key, long, "1"}},
		{wrongType, []string{"HSETNX", "w", long, long}}, {wrongType, []string{"HSETNX", "w", "1", long}}, {tooLarge, []string{"HSETNX", key, long, "1"}}, {wrongType, []string{"HGET", "w", long}}, {wrongType, []string{"HMGET", "w", "a", long}}, {wrongType, []string{"HDEL", "w", long}}, {wrongType, []string{"HEXISTS", "w", long}}, {wrongType, []string{"HSTRLEN", "w", long}},
		{noNumber, []string{"HINCRBY", "w", "a", "x"}}, {noNumber, []string{"HINCRBY", "w", long, "01"}}, {noNumber, []string{"HINCRBY", "h", "c", "x"}}, {noNumber, []string{"HINCRBY", "h", long, ""}}, {noNumber, []string{"HINCRBY", key, "a", "9223372036854775808"}}, {wrongType, []string{"HINCRBY", "w", "a", "1"}}, {wrongType, []string{"HINCRBY", "w", long, "1"}}, {noInteger, []string{"HINCRBY", "h", "c", greatest}}, {tooLarge, []string{"HINCRBY", "h", long, greatest}}, {tooLarge, []string{"HINCRBY", key, long, "1"}}, {overflow, []string{"HINCRBY", "h", "a", greatest}},
		{noSample, []string{"HRANDFIELD", "w", "x"}}, {noSample, []string{"HRANDFIELD", "w", "1048577"}}, {noSample, []string{"HRANDFIELD", "w", "-1048577", "WITHVALUES"}}, {noSample, []string{"HRANDFIELD", "w", "x", "BOGUS"}}, {noSample, []string{"HRANDFIELD", "h", "1048577", "BOGUS"}}, {noSample, []string{"HRANDFIELD", "none", least, ""}}, {syntax, []string{"HRANDFIELD", "w", "1", "BOGUS"}}, {syntax, []string{"HRANDFIELD", "none", "0", "BOGUS"}}, {wrongType, []string{"HRANDFIELD", "w"}}, {wrongType, []string{"HRANDFIELD", "w", "1048576"}}, {wrongType, []string{"HRANDFIELD", "w", "-1048576", "WITHVALUES"}}, {wrongType, []string{"HRANDFIELD", "w", "0"}},
		{noCursor, []string{"HSCAN", "w", "-1", "BOGUS"}}, {noCursor, []string{"HSCAN", "w", "x", "MATCH", pattern}}, {noCursor, []string{"HSCAN", "w", "x", "COUNT", "0"}}, {noCursor, []string{"HSCAN", "w", "x", "NOVALUES", "NOVALUES"}}, {syntax, []string{"HSCAN", "w", "0", "COUNT", "0"}}, {syntax, []string{"HSCAN", "w", "0", "MATCH", pattern}}, {syntax, []string{"HSCAN", "w", "0", "MATCH"}}, {syntax, []string{"HSCAN", "w", "0", "NOVALUES", "NOVALUES"}}, {syntax, []string{"HSCAN", "w", "0", "COUNT", "0", "BOGUS", "1"}}, {syntax, []string{"HSCAN", "w", "0", "BOGUS", "1", "COUNT", "x"}}, {wrongType, []string{"HSCAN", "w", "0", "MATCH", "a", "COUNT", "1", "NOVALUES"}},
		{unknown, []string{"HSCAN", "w", "x", "COUNT", "0", "MATCH", "a", "NOVALUES", "more"}}, {unknown, []string{"HSCAN", "w"}}, {unknown, []string{"HSET", "w", "a"}}, {unknown, []string{"HMSET", "w", "a"}}, {unknown, []string{"HSETNX", "w", "a", long, "b"}}, {unknown, []string{"HINCRBY", "w", "a"}}, {unknown, []string{"HINCRBY", "w", "a", "x", "y"}}, {unknown, []string{"HRANDFIELD", "w", "x", "BOGUS", "more"}}, {unknown, []string{"HGET", "w", "a", "b"}}, {unknown, []string{"HMGET", "w"}}, {unknown, []string{"HDEL", "w"}}, {unknown, []string{"HLEN", "w", "w"}}, {unknown, []string{"HGETALL"}},
	} {
		p := withHashes(t)
		p.give(0, "w", api.KindZset)
		p.expire(0, "w", 7000)
		p.refusesWords(c.want, c.args...)
	}
}

// TestLooking: how many uses and marks a command makes: the key is got once, where the row looks at its kind; the space is told of each field that is put, and of none that was not there to be erased.
func TestLooking(t *testing.T) {
	for _, c := range []struct {
		line        string
		uses, marks int
	}{
		// A use by looking, one by Put; a mark by Put and by Changed. A hash that goes is given no mark.
		{"HSET h x 1", 1, 1}, {"HSET h x 1 y 2 z 3", 1, 1}, {"HSET h a 1", 1, 1}, {"HSET h a 1 b 2", 1, 1}, {"HSET none x 1", 1, 1}, {"HSET none x 1 y 2", 1, 1}, {"HSET w x 1", 1, 0}, {"HSET h x 1 y", 0, 0}, {"HSET w x 1 y", 0, 0},
		{"HMSET h x 1 a 2", 1, 1}, {"HMSET h a 1", 1, 1}, {"HMSET none x 1", 1, 1}, {"HMSET w x 1", 1, 0}, {"HMSET h x 1 y", 0, 0}, {"HSETNX h x 1", 1, 1}, {"HSETNX h a 9", 1, 0}, {"HSETNX none x 1", 1, 1}, {"HSETNX w x 1", 1, 0},
		{"HGET h a", 1, 0}, {"HGET h x", 1, 0}, {"HGET none a", 0, 0}, {"HGET w a", 1, 0}, {"HMGET h a b x", 1, 0}, {"HMGET none a", 0, 0}, {"HMGET w a", 1, 0},
		{"HDEL h a", 1, 1}, {"HDEL h a b", 1, 1}, {"HDEL h a b c", 1, 0}, {"HDEL h x", 1, 0}, {"HDEL none x", 0, 0}, {"HDEL one e", 1, 0}, {"HDEL w 1", 1, 0},
		{"HLEN h", 1, 0}, {"HLEN none", 0, 0}, {"HLEN w", 1, 0}, {"HEXISTS h a", 1, 0}, {"HEXISTS none a", 0, 0}, {"HSTRLEN h a", 1, 0}, {"HSTRLEN w a", 1, 0}, {"HKEYS h", 1, 0}, {"HKEYS none", 0, 0}, {"HVALS h", 1, 0}, {"HVALS w", 1, 0}, {"HGETALL h", 1, 0}, {"HGETALL none", 0, 0}, {"HGETALL w", 1, 0},
		{"HINCRBY h a 5", 1, 1}, {"HINCRBY h a 0", 1, 1}, {"HINCRBY h x 5", 1, 1}, {"HINCRBY none x 5", 1, 1}, {"HINCRBY h a x", 0, 0}, {"HINCRBY h c 1", 1, 0}, {"HINCRBY h a " + greatest, 1, 0}, {"HINCRBY w a 1", 1, 0}, {"HINCRBY none a x", 0, 0},
		{"HRANDFIELD h", 1, 0}, {"HRANDFIELD h 2", 1, 0}, {"HRANDFIELD h -9 WITHVALUES", 1, 0}, {"HRANDFIELD none", 0, 0}, {"HRANDFIELD none 2", 0, 0}, {"HRANDFIELD h x", 0, 0}, {"HRANDFIELD h 1 BOGUS", 0, 0}, {"HRANDFIELD w", 1, 0}, {"HRANDFIELD w 1", 1, 0},
		{"HSCAN h 0", 1, 0}, {"HSCAN h 5 COUNT 1", 1, 0}, {"HSCAN h 0 NOVALUES", 1, 0}, {"HSCAN none 0", 0, 0}, {"HSCAN w 0", 1, 0}, {"HSCAN h x", 0, 0}, {"HSCAN h 0 COUNT 0", 0, 0},
		{"FLY h", 0, 0}, {"HLEN h h", 0, 0},
	} {
		p := withHashes(t)
		p.give(0, "w", api.KindList)
		p.expire(0, "h", 5000)
		p.askIn(1, "HSET", "probe", "1", "1")
		mark := p.sp.Mark(1, "probe")
		p.ask(split(c.line)...)
		uses := p.sp.Idle(1, "probe")
		p.askIn(1, "HSET", "next", "1", "1")
		if marks := p.sp.Mark(1, "next") - mark - 1; uses != c.uses || marks != c.marks {
			t.Errorf("%s: %d uses, %d marks; want %d, %d", c.line, uses, marks, c.uses, c.marks)
		}
	}
}

// TestExpiries: what becomes of an expiry: it stays where a hash is worked on, and goes with its key.
func TestExpiries(t *testing.T) {
	for _, sample := range samples() {
		p := withHashes(t)
		p.expire(0, "h", 5000)
		p.expire(0, "one", 6000)
		p.ask(split(sample)...)
		for key, due := range map[string]int{"h": 5000, "one": 6000} {
			if _, there := p.sp.Peek(0, key); there {
				p.due(key, due)
				continue
			}
			if sample != "hdel h a b c" && sample != "hdel one e" {
				t.Errorf("%s: %s is gone", sample, key)
			}
			p.ask("HSET", key, "more", "1")
			p.due(key, -1) // what comes under the same name later has none
		}
		if _, there := p.sp.Peek(0, "k"); there {
			p.due("k", -1)
		}
	}
}

// TestP11Time: a hash is there until its time, and for no command from it on.
func TestP11Time(t *testing.T) {
	for _, sample := range samples() {
		for _, n := range []int{3999, 4000, 4001} {
			p := withHashes(t)
			p.expire(0, "h", 5000)
			p.advance(n)
			other := withHashes(t)
			if n >= 4000 {
				other.want("HDEL h a b c", ":3")
			}
			if got, want := p.ask(strings.Fields(sample)...), other.ask(strings.Fields(sample)...); got != want {
				t.Errorf("%s at %d: %s; want %s", sample, 1000+n, got, want)
			}
		}
	}
}

// TestNoDatabase: a database that is none has no keys, and takes none.
func TestNoDatabase(t *testing.T) {
	for _, db := range []int{-1, 2, 16, 1 << 40, -1 << 63} {
		p := withHashes(t)
		before := p.unused()
		for _, c := range []struct{ line, want string }{
			{"HSET h x 1", "-" + syntax}, {"HMSET h a 1", "-" + syntax}, {"HSETNX h x 1", "-" + syntax}, {"HGET h a", "_"}, {"HMGET h a b", "[_ _]"}, {"HDEL h a", ":0"}, {"HLEN h", ":0"}, {"HEXISTS h a", ":0"}, {"HSTRLEN h a", ":0"}, {"HKEYS h", "[]"}, {"HVALS h", "[]"}, {"HGETALL h", "{}"}, {"HINCRBY h a 1", "-" + syntax}, {"HRANDFIELD h", "_"}, {"HRANDFIELD h -2", "[]"}, {"HSCAN h 0", "[$0 []]"},
		} {
			if got := p.askIn(db, split(c.line)...); got != c.want {
				t.Errorf("%s in %d: %s; want %s", c.line, db, got, c.want)
			}
		}
		if p.unused() != before {
			t.Errorf("commands in %d changed other databases", db)
		}
	}
}

// TestDatabases: a command sees the keys of its database alone.
func TestDatabases(t *testing.T) {
	for _, sample := range samples() {
		for db := range 2 {
			p := newTrial(t, someLimits())
			p.askIn(1-db, "HSET", "h", "x", "y", "a", "other")
			p.askIn(1-db, "HSET", "k", "z", "a")
			p.askIn(db, "HSET", "h", "a", "1", "b", "2", "c", "text")
			p.askIn(db, split(sample)...)
		}
	}
}

// TestFull: as many keys as there may be: a hash that is there is worked on, one that is not, not made.
func TestFull(t *testing.T) {
	t.Parallel()
	sp := newSpace(someLimits())
	v := holding(api.KindString, someLimits())
	for i := range api.MaxKeys - 1 {
		sp.Put(i%2, fmt.Sprint("k", i), v)
	}
	want := func(words, want string) {
		t.Helper()
		before, mark := sp.Len(-1), sp.Mark(0, "h")
		if got := told(Do(sp, 0, split(words))); got != want {
			t.Errorf("%s: %s; want %s", words, got, want)
		}
		if strings.HasPrefix(want, "-") && (sp.Len(-1) != before || sp.Mark(0, "h") != mark) {
			t.Errorf("%s was refused, and has changed something", words)
		}
	}
	want("HSET h a 1 b 2", ":2")
	want("HSET n a 1", "-"+tooMany)
	want("HMSET n a 1", "-"+tooMany)
	want("HSETNX n a 1", "-"+tooMany)
	want("HINCRBY n a 1", "-"+tooMany)
	want("HLEN n", ":0")
	want("HSET h c 3", ":1")
	want("HINCRBY h d 4", ":4")
	want("HGETALL h", "{$a $1 $b $2 $c $3 $d $4}")
	want("HDEL h a b c d", ":4")
	want("HINCRBY n a 1", ":1")
	want("HSET h a 1", "-"+tooMany)
	if sp.Len(-1) != api.MaxKeys {
		t.Errorf("%d keys", sp.Len(-1))
	}
}
