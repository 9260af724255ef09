package sets

import (
	"fmt"
	"strings"
	"testing"

	"cistern/api"
)

// TestP161Kinds: what each command tells of a key that is not there, that is a set of a, b, c, and that is of another kind.
func TestP161Kinds(t *testing.T) {
	wrong := "-" + wrongType
	for _, c := range []struct{ line, none, set, other string }{
		{"SADD k a x", ":2", ":1", wrong}, {"SADD k a", ":1", ":0", wrong}, {"SREM k a x", ":0", ":1", wrong}, {"SREM k x", ":0", ":0", wrong}, {"SREM k a b c", ":0", ":3", wrong},
		{"SISMEMBER k a", ":0", ":1", wrong}, {"SISMEMBER k x", ":0", ":0", wrong}, {"SMISMEMBER k a x", "[:0 :0]", "[:1 :0]", wrong}, {"SCARD k", ":0", ":3", wrong}, {"SMEMBERS k", "{}", "{$a $b $c}", wrong},
		{"SPOP k", "_", "$c", wrong}, {"SPOP k 0", "{}", "{}", wrong}, {"SPOP k 2", "{}", "{$c $b}", wrong}, {"SPOP k 9", "{}", "{$c $b $a}", wrong},
		{"SRANDMEMBER k", "_", "$c", wrong}, {"SRANDMEMBER k 0", "[]", "[]", wrong}, {"SRANDMEMBER k 2", "[]", "[$c $b]", wrong}, {"SRANDMEMBER k 3", "[]", "[$a $b $c]", wrong}, {"SRANDMEMBER k 9", "[]", "[$a $b $c]", wrong}, {"SRANDMEMBER k -3", "[]", "[$c $a $a]", wrong},
		{"SMOVE k d a", ":0", ":1", wrong}, {"SMOVE k d x", ":0", ":0", wrong}, {"SMOVE s k 1", ":1", ":1", wrong}, {"SMOVE s k x", ":0", ":0", wrong}, {"SMOVE none k a", ":0", ":0", ":0"}, {"SMOVE k k a", ":0", ":1", wrong}, {"SMOVE k k x", ":0", ":0", wrong},
		{"SINTER k", "{}", "{$a $b $c}", wrong}, {"SINTER k s", "{}", "{$a}", wrong}, {"SINTER s k", "{}", "{$a}", wrong}, {"SINTER none k", "{}", "{}", wrong}, {"SINTER none none s k", "{}", "{}", wrong},
		{"SUNION k", "{}", "{$a $b $c}", wrong}, {"SUNION k s", "{$1 $a}", "{$1 $a $b $c}", wrong}, {"SUNION s k", "{$1 $a}", "{$1 $a $b $c}", wrong}, {"SDIFF k", "{}", "{$a $b $c}", wrong}, {"SDIFF k s", "{}", "{$b $c}", wrong}, {"SDIFF s k", "{$1 $a}", "{$1}", wrong}, {"SDIFF none k", "{}", "{}", wrong},
		{"SINTERSTORE d k s", ":0", ":1", wrong}, {"SUNIONSTORE d s none k", ":2", ":4", wrong}, {"SDIFFSTORE d s s k", ":0", ":0", wrong}, {"SINTERSTORE k s", ":2", ":2", ":2"}, {"SUNIONSTORE k none", ":0", ":0", ":0"}, {"SDIFFSTORE k s none", ":2", ":2", ":2"}, {"SUNIONSTORE k k s", ":2", ":4", wrong}, {"SDIFFSTORE k s k", ":2", ":1", wrong},
		{"SINTERCARD 1 k", ":0", ":3", wrong}, {"SINTERCARD 2 s k", ":0", ":1", wrong}, {"SINTERCARD 2 none k", ":0", ":0", wrong}, {"SINTERCARD 1 k LIMIT 2", ":0", ":2", wrong},
		{"SSCAN k 0", "[$0 []]", "[$0 [$a $b $c]]", wrong}, {"SSCAN k 77 MATCH [bc] COUNT 1", "[$0 []]", "[$0 [$b $c]]", wrong},
	} {
		p := begun(t)
		p.want("SADD s 1 a", ":2")
		p.want(c.line, c.none)
		p = begun(t)
		p.want("SADD s 1 a", ":2")
		p.want("SADD k a b c", ":3")
		p.expire(0, "k", 7000)
		p.want(c.line, c.set)
		for _, kind := range others() {
			p = begun(t)
			p.want("SADD s 1 a", ":2")
			p.give(0, "k", kind)
			p.expire(0, "k", 7000)
			if c.other == wrong {
				p.refuses(c.line, wrongType)
			} else {
				p.want(c.line, c.other)
			}
		}
	}
}

// TestP161Order: of two checks that fail the one is told that the row names first.
func TestP161Order(t *testing.T) {
	long, key, pattern := strings.Repeat("v", api.MaxElement+1), strings.Repeat("k", api.MaxKey+1), strings.Repeat("p", api.MaxPattern+1)
	for _, c := range []struct {
		want string
		args []string
	}{
		{wrongType, []string{"SADD", "w", long}}, {wrongType, []string{"SADD", "w", "a", long}}, {tooLarge, []string{"SADD", key, long}}, {tooLarge, []string{"SADD", "s", long, "a"}}, {wrongType, []string{"SREM", "w", long}}, {wrongType, []string{"SISMEMBER", "w", long}}, {wrongType, []string{"SMISMEMBER", "w", "a", long}},
		{notPositive, []string{"SPOP", "w", "-1"}}, {notPositive, []string{"SPOP", "w", "x"}}, {notPositive, []string{"SPOP", "none", "x"}}, {wrongType, []string{"SPOP", "w", "0"}}, {wrongType, []string{"SPOP", "w", greatest}},
		{noSample, []string{"SRANDMEMBER", "w", "x"}}, {noSample, []string{"SRANDMEMBER", "w", "1048577"}}, {noSample, []string{"SRANDMEMBER", "w", "-1048577"}}, {noSample, []string{"SRANDMEMBER", "none", least}}, {wrongType, []string{"SRANDMEMBER", "w", "1048576"}}, {wrongType, []string{"SRANDMEMBER", "w", "-1048576"}}, {wrongType, []string{"SRANDMEMBER", "w", "0"}},
		{wrongType, []string{"SMOVE", "w", "w", "a"}}, {wrongType, []string{"SMOVE", "w", key, "a"}}, {wrongType, []string{"SMOVE", "s", "w", "x"}}, {wrongType, []string{"SMOVE", "s", "w", long}}, {wrongType, []string{"SMOVE", "s", "w", "a"}}, {tooLarge, []string{"SMOVE", "s", key, "a"}},
		{wrongType, []string{"SINTER", "none", "w"}}, {wrongType, []string{"SUNION", "s", "t", "w"}}, {wrongType, []string{"SDIFF", "s", "s", "w"}}, {wrongType, []string{"SINTERSTORE", key, "s", "w"}}, {wrongType, []string{"SUNIONSTORE", key, "w", "s"}}, {wrongType, []string{"SDIFFSTORE", "s", "none", "w"}}, {tooLarge, []string{"SUNIONSTORE", key, "s", "t"}},
		{noKeys, []string{"SINTERCARD", "0", "w", "BOGUS"}}, {noKeys, []string{"SINTERCARD", "x", "w", "LIMIT", "-1"}}, {noKeys, []string{"SINTERCARD", "-5", "w"}}, {manyKeys, []string{"SINTERCARD", "2", "w"}}, {manyKeys, []string{"SINTERCARD", "4", "w", "LIMIT", "-1"}}, {syntax, []string{"SINTERCARD", "1", "w", "BOGUS"}}, {syntax, []string{"SINTERCARD", "1", "w", "LIMIT", "-1", "more"}}, {syntax, []string{"SINTERCARD", "1", "w", "LIMIT", "x"}}, {noLimit, []string{"SINTERCARD", "1", "w", "LIMIT", "-1"}}, {wrongType, []string{"SINTERCARD", "1", "w", "LIMIT", "1"}}, {wrongType, []string{"SINTERCARD", "2", "none", "w"}},
		{noCursor, []string{"SSCAN", "w", "-1", "BOGUS"}}, {noCursor, []string{"SSCAN", "w", "x", "MATCH", pattern}}, {noCursor, []string{"SSCAN", "w", "x", "COUNT", "0"}}, {syntax, []string{"SSCAN", "w", "0", "COUNT", "0"}}, {syntax, []string{"SSCAN", "w", "0", "MATCH", pattern}}, {syntax, []string{"SSCAN", "w", "0", "MATCH"}}, {syntax, []string{"SSCAN", "w", "0", "COUNT", "0", "BOGUS", "1"}}, {syntax, []string{"SSCAN", "w", "0", "BOGUS", "1", "COUNT", "x"}}, {wrongType, []string{"SSCAN", "w", "0", "MATCH", "a", "COUNT", "1"}},
		{unknown, []string{"SSCAN", "w", "x", "COUNT", "0", "MATCH", "a", "more"}}, {unknown, []string{"SSCAN", "w"}}, {unknown, []string{"SINTERCARD", "0"}}, {unknown, []string{"SPOP", "w", "x", "y"}}, {unknown, []string{"SRANDMEMBER", "w", "x", "y"}}, {unknown, []string{"SADD", "w"}}, {unknown, []string{"SMOVE", "w", "w"}}, {unknown, []string{"SCARD", "w", "w"}}, {unknown, []string{"SUNIONSTORE", "w"}}, {unknown, []string{"SINTER"}},
	} {
		p := withSets(t)
		p.give(0, "w", api.KindZset)
		p.expire(0, "w", 7000)
		p.refusesWords(c.want, c.args...)
	}
}

// TestLooking: how many uses and marks a command makes: each word that is a key is got once, where the row looks at its kind; a dest is not, and nothing is told to the space where nothing has come or gone.
func TestLooking(t *testing.T) {
	for _, c := range []struct {
		line        string
		uses, marks int
	}{
		// A use by looking, one by Put; a mark by Put and by Changed. A set that goes is given no mark.
		{"SADD s x", 1, 1}, {"SADD s x y z", 1, 1}, {"SADD s a x", 1, 1}, {"SADD s a", 1, 0}, {"SADD s a b a", 1, 0}, {"SADD none x", 1, 1}, {"SADD none x y", 1, 1}, {"SADD w x", 1, 0},
		{"SREM s a", 1, 1}, {"SREM s a b", 1, 1}, {"SREM s a b c", 1, 0}, {"SREM s x", 1, 0}, {"SREM none x", 0, 0}, {"SREM one e", 1, 0}, {"SREM w 1", 1, 0},
		{"SISMEMBER s a", 1, 0}, {"SISMEMBER none a", 0, 0}, {"SISMEMBER w a", 1, 0}, {"SMISMEMBER s a b c", 1, 0}, {"SMISMEMBER none a", 0, 0}, {"SCARD s", 1, 0}, {"SCARD none", 0, 0}, {"SMEMBERS s", 1, 0}, {"SMEMBERS w", 1, 0},
		{"SPOP s", 1, 1}, {"SPOP s 1", 1, 1}, {"SPOP s 2", 1, 1}, {"SPOP s 3", 1, 0}, {"SPOP s 0", 1, 0}, {"SPOP s -1", 0, 0}, {"SPOP s x", 0, 0}, {"SPOP none", 0, 0}, {"SPOP none 2", 0, 0}, {"SPOP one", 1, 0}, {"SPOP w 2", 1, 0},
		{"SRANDMEMBER s", 1, 0}, {"SRANDMEMBER s 2", 1, 0}, {"SRANDMEMBER s -9", 1, 0}, {"SRANDMEMBER none 2", 0, 0}, {"SRANDMEMBER s x", 0, 0}, {"SRANDMEMBER w", 1, 0},
		{"SMOVE s t a", 2, 2}, {"SMOVE s t b", 2, 1}, {"SMOVE s none a", 2, 2}, {"SMOVE s s a", 2, 0}, {"SMOVE s s x", 2, 0}, {"SMOVE s t x", 2, 0}, {"SMOVE s none x", 1, 0}, {"SMOVE one t e", 2, 1}, {"SMOVE one none e", 2, 1}, {"SMOVE one one e", 2, 0}, {"SMOVE none s a", 0, 0}, {"SMOVE none w a", 0, 0}, {"SMOVE w s a", 1, 0}, {"SMOVE s w a", 2, 0}, {"SMOVE s w x", 2, 0}, {"SMOVE w w a", 1, 0},
		{"SINTER s t", 2, 0}, {"SINTER s s s", 3, 0}, {"SINTER none s t", 2, 0}, {"SINTER s w t", 2, 0}, {"SINTER w s t", 1, 0}, {"SINTER none", 0, 0}, {"SUNION s none t", 2, 0}, {"SUNION s t w", 3, 0}, {"SDIFF s s t", 3, 0}, {"SDIFF none s", 1, 0},
		{"SINTERSTORE none s t", 3, 1}, {"SINTERSTORE one s t", 3, 1}, {"SINTERSTORE s s t", 3, 1}, {"SINTERSTORE one s none", 1, 0}, {"SINTERSTORE none s one", 2, 0}, {"SUNIONSTORE s s s", 3, 1}, {"SUNIONSTORE w s", 2, 1}, {"SUNIONSTORE none none", 0, 0}, {"SDIFFSTORE w s s", 2, 0}, {"SDIFFSTORE one s t w", 3, 0}, {"SDIFFSTORE one w s", 1, 0},
		{"SINTERCARD 2 s t", 2, 0}, {"SINTERCARD 3 s s s LIMIT 1", 3, 0}, {"SINTERCARD 2 none s", 1, 0}, {"SINTERCARD 2 w s", 1, 0}, {"SINTERCARD 0 s", 0, 0}, {"SINTERCARD 2 s", 0, 0}, {"SINTERCARD 1 s t", 0, 0}, {"SINTERCARD 1 s LIMIT -1", 0, 0},
		{"SSCAN s 0", 1, 0}, {"SSCAN s 5 COUNT 1", 1, 0}, {"SSCAN none 0", 0, 0}, {"SSCAN w 0", 1, 0}, {"SSCAN s x", 0, 0}, {"SSCAN s 0 COUNT 0", 0, 0},
		{"FLY s", 0, 0}, {"SCARD s s", 0, 0},
	} {
		p := withSets(t)
		p.give(0, "w", api.KindList)
		p.expire(0, "s", 5000)
		p.askIn(1, "SADD", "probe", "1")
		mark := p.sp.Mark(1, "probe")
		p.ask(split(c.line)...)
		uses := p.sp.Idle(1, "probe")
		p.askIn(1, "SADD", "next", "1")
		if marks := p.sp.Mark(1, "next") - mark - 1; uses != c.uses || marks != c.marks {
			t.Errorf("%s: %d uses, %d marks; want %d, %d", c.line, uses, marks, c.uses, c.marks)
		}
	}
}

// TestLastUsed: of the keys of a command the one is used last that is got or put last.
func TestLastUsed(t *testing.T) {
	for line, order := range map[string]string{
		"SMOVE s t a": "s t", "SMOVE t s d": "t s", "SMOVE s none a": "s none", "SMOVE s t x": "s t", "SMOVE s w a": "s w", "SINTER t one s": "t one s", "SUNION s t one": "s t one", "SDIFF s w t": "s w", "SUNIONSTORE d s t": "s t d", "SUNIONSTORE s s t": "t s", "SINTERSTORE d t one": "t one", "SINTERCARD 3 one s t": "one s t", "SINTERCARD 3 one w t": "one w",
	} {
		p := withSets(t)
		p.give(0, "w", api.KindHash)
		p.ask(split(line)...)
		keys := strings.Fields(order)
		for i, key := range keys {
			if got, want := p.sp.Idle(0, key), len(keys)-1-i; got != want {
				t.Errorf("%s: %s is idle for %d; want %d", line, key, got, want)
			}
		}
	}
}

// TestExpiries: what becomes of an expiry: it stays where a set is worked on, and goes with its key, or where its key is made anew.
func TestExpiries(t *testing.T) {
	for _, c := range []struct {
		line string
		due  int // 0: the key s is not there; -1: it has no expiry
	}{
		{"SADD s x", 5000}, {"SADD s a", 5000}, {"SREM s a", 5000}, {"SREM s x", 5000}, {"SISMEMBER s a", 5000}, {"SMISMEMBER s a x", 5000}, {"SCARD s", 5000}, {"SMEMBERS s", 5000}, {"SPOP s", 5000}, {"SPOP s 2", 5000}, {"SPOP s 0", 5000}, {"SRANDMEMBER s", 5000}, {"SRANDMEMBER s -2", 5000}, {"SMOVE s t a", 5000}, {"SMOVE t s d", 5000}, {"SMOVE s s a", 5000}, {"SMOVE s none a", 5000}, {"SINTER s t", 5000}, {"SUNION s t", 5000}, {"SDIFF s t", 5000}, {"SINTERSTORE d s t", 5000}, {"SUNIONSTORE t s", 5000}, {"SINTERCARD 1 s", 5000}, {"SSCAN s 0", 5000},
		{"SREM s a b c", 0}, {"SPOP s 3", 0}, {"SPOP s 9", 0}, {"SINTERSTORE s s one", 0}, {"SUNIONSTORE s none", 0}, {"SDIFFSTORE s s s", 0},
		{"SINTERSTORE s s t", -1}, {"SUNIONSTORE s s", -1}, {"SDIFFSTORE s t one", -1}, {"SUNIONSTORE s one", -1},
	} {
		p := withSets(t)
		p.expire(0, "s", 5000)
		p.ask(split(c.line)...)
		p.due("s", c.due)
		p.ask("SADD", "s", "more")
		if c.due == 0 {
			c.due = -1 // what comes under the same name later has none
		}
		p.due("s", c.due)
	}
	p := withSets(t)
	p.expire(0, "one", 5000)
	p.want("SMOVE one made e", ":1")
	p.due("one", 0)
	p.due("made", -1)
	p.expire(0, "made", 6000)
	p.want("SMOVE s made a", ":1")
	p.due("made", 6000)
}

// TestP11Time: a set is there until its time, and for no command from it on.
func TestP11Time(t *testing.T) {
	for _, sample := range samples() {
		for _, n := range []int{3999, 4000, 4001} {
			p := withSets(t)
			p.expire(0, "s", 5000)
			p.advance(n)
			other := withSets(t)
			if n >= 4000 {
				other.want("SREM s a b c", ":3")
			}
			if got, want := p.ask(strings.Fields(sample)...), other.ask(strings.Fields(sample)...); got != want {
				t.Errorf("%s at %d: %s; want %s", sample, 1000+n, got, want)
			}
		}
	}
}

// TestNoDatabase: a database that is none has no keys, and takes none.
func TestNoDatabase(t *testing.T) {
	for _, db := range []int{-1, 2, 16, 1 << 40, -1 << 63} {
		p := withSets(t)
		before := p.unused()
		for _, c := range []struct{ line, want string }{
			{"SADD s x", "-" + syntax}, {"SREM s a", ":0"}, {"SISMEMBER s a", ":0"}, {"SMISMEMBER s a b", "[:0 :0]"}, {"SCARD s", ":0"}, {"SMEMBERS s", "{}"}, {"SPOP s", "_"}, {"SPOP s 2", "{}"}, {"SRANDMEMBER s", "_"}, {"SRANDMEMBER s -2", "[]"}, {"SMOVE s t a", ":0"}, {"SINTER s t", "{}"}, {"SUNION s t", "{}"}, {"SDIFF s t", "{}"}, {"SINTERSTORE s s t", ":0"}, {"SUNIONSTORE d s t", ":0"}, {"SDIFFSTORE d s t", ":0"}, {"SINTERCARD 2 s t", ":0"}, {"SSCAN s 0", "[$0 []]"},
		} {
			if got := p.askIn(db, split(c.line)...); got != c.want {
				t.Errorf("%s in %d: %s; want %s", c.line, db, got, c.want)
			}
		}
		if p.unused() != before {
			t.Errorf("commands in %d changed other databases", db)
		}
	}
}

// TestDatabases: a command sees the keys of its database alone.
func TestDatabases(t *testing.T) {
	for _, sample := range samples() {
		for db := range 2 {
			p := newTrial(t, someLimits())
			p.askIn(1-db, "SADD", "s", "x", "y")
			p.askIn(1-db, "SADD", "k", "z", "a")
			p.askIn(db, "SADD", "s", "a", "b", "c")
			p.askIn(db, "SADD", "t", "b", "c", "d")
			p.askIn(db, split(sample)...)
		}
	}
}

// TestFull: as many keys as there may be: a set that is there is worked on, one that is not, not made.
func TestFull(t *testing.T) {
	t.Parallel()
	sp := newSpace(someLimits())
	v := holding(api.KindString, someLimits())
	for i := range api.MaxKeys - 2 {
		sp.Put(i%2, fmt.Sprint("k", i), v)
	}
	want := func(words, want string) {
		t.Helper()
		before, mark := sp.Len(-1), sp.Mark(0, "s")
		if got := told(Do(sp, 0, split(words))); got != want {
			t.Errorf("%s: %s; want %s", words, got, want)
		}
		if strings.HasPrefix(want, "-") && (sp.Len(-1) != before || sp.Mark(0, "s") != mark) {
			t.Errorf("%s was refused, and has changed something", words)
		}
	}
	want("SADD s a b", ":2")
	want("SADD m a", ":1")
	want("SADD n a", "-"+tooMany)
	want("SMOVE s n a", "-"+tooMany)
	want("SMOVE m n a", "-"+tooMany) // though m would go
	want("SUNIONSTORE n s m", "-"+tooMany)
	want("SINTERSTORE n s m", "-"+tooMany)
	want("SDIFFSTORE n s m", "-"+tooMany)
	want("SDIFFSTORE n m s", ":0")
	want("SMEMBERS s", "{$a $b}")
	want("SMEMBERS m", "{$a}")
	want("SADD s c", ":1")
	want("SUNIONSTORE k0 s m", ":3") // in the place of a string
	want("SINTERSTORE m s m", ":1")
	want("SMOVE m s a", ":1")
	want("SMOVE s n b", ":1")
	want("SMEMBERS n", "{$b}")
	want("SMEMBERS s", "{$a $c}")
	if sp.Len(-1) != api.MaxKeys {
		t.Errorf("%d keys", sp.Len(-1))
	}
}
