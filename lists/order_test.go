package lists

import (
	"fmt"
	"strings"
	"testing"

	"cistern/api"
)

// TestLI1Kinds: what each command tells of a key that is not there, that is a list of a, b, a, and that is of another kind.
func TestLI1Kinds(t *testing.T) {
	wrong := "-" + wrongType
	for _, c := range []struct{ line, none, list, other string }{
		{"LPUSH k v", ":1", ":4", wrong}, {"RPUSH k v w", ":2", ":5", wrong}, {"LPUSHX k v", ":0", ":4", wrong}, {"RPUSHX k v w", ":0", ":5", wrong},
		{"LPOP k", "_", "$a", wrong}, {"RPOP k", "_", "$a", wrong}, {"LPOP k 2", "*_", "[$a $b]", wrong}, {"RPOP k 2", "*_", "[$a $b]", wrong}, {"LPOP k 0", "*_", "[]", wrong}, {"RPOP k 0", "*_", "[]", wrong},
		{"LLEN k", ":0", ":3", wrong}, {"LINDEX k 1", "_", "$b", wrong}, {"LINDEX k 9", "_", "_", wrong}, {"LSET k 1 v", "-" + noKey, "+OK", wrong}, {"LSET k 9 v", "-" + noKey, "-" + noIndex, wrong},
		{"LINSERT k BEFORE b v", ":0", ":4", wrong}, {"LINSERT k AFTER v v", ":0", ":-1", wrong}, {"LRANGE k 0 -1", "[]", "[$a $b $a]", wrong}, {"LRANGE k 5 1", "[]", "[]", wrong},
		{"LREM k 0 a", ":0", ":2", wrong}, {"LREM k 0 v", ":0", ":0", wrong}, {"LTRIM k 1 -1", "+OK", "+OK", wrong}, {"LTRIM k 5 1", "+OK", "+OK", wrong},
		{"LPOS k b", "_", ":1", wrong}, {"LPOS k v", "_", "_", wrong}, {"LPOS k a COUNT 0", "[]", "[:0 :2]", wrong},
		{"LMOVE k d LEFT LEFT", "_", "$a", wrong}, {"LMOVE s k LEFT LEFT", "$1", "$1", wrong}, {"LMOVE k k LEFT RIGHT", "_", "$a", wrong}, {"LMOVE none k LEFT LEFT", "_", "_", "_"}, {"RPOPLPUSH k d", "_", "$a", wrong}, {"RPOPLPUSH s k", "$2", "$2", wrong},
		{"LMPOP 1 k LEFT", "*_", "[$k [$a]]", wrong}, {"LMPOP 2 k s RIGHT COUNT 2", "[$s [$2 $1]]", "[$k [$a $b]]", wrong}, {"LMPOP 2 s k LEFT", "[$s [$1]]", "[$s [$1]]", "[$s [$1]]"}, {"LMPOP 2 none k LEFT", "*_", "[$k [$a]]", wrong},
	} {
		p := begun(t)
		p.want("RPUSH s 1 2", ":2")
		p.want(c.line, c.none)
		p = begun(t)
		p.want("RPUSH s 1 2", ":2")
		p.want("RPUSH k a b a", ":3")
		p.expire(0, "k", 7000)
		p.want(c.line, c.list)
		for _, kind := range kinds {
			if kind == api.KindList {
				continue
			}
			p = begun(t)
			p.want("RPUSH s 1 2", ":2")
			p.give(0, "k", kind)
			p.expire(0, "k", 7000)
			if c.other == wrong {
				p.refuses(c.line, wrongType)
			} else {
				p.want(c.line, c.other)
			}
		}
	}
}

// TestLI1Order: of two checks that fail the one is told that the row names first.
func TestLI1Order(t *testing.T) {
	long, key := strings.Repeat("v", api.MaxElement+1), strings.Repeat("k", api.MaxKey+1)
	for _, c := range []struct {
		want string
		args []string
	}{
		{wrongType, []string{"LPUSH", "w", long}}, {wrongType, []string{"RPUSH", "w", "a", long}}, {wrongType, []string{"LPUSHX", "w", long}}, {wrongType, []string{"RPUSHX", "w", long}}, {tooLarge, []string{"LPUSH", key, long}},
		{notPositive, []string{"LPOP", "w", "-1"}}, {notPositive, []string{"RPOP", "w", "x"}}, {wrongType, []string{"LPOP", "w", "0"}}, {wrongType, []string{"RPOP", "w", "5"}},
		{noNumber, []string{"LINDEX", "w", "x"}}, {wrongType, []string{"LINDEX", "w", "99"}}, {noNumber, []string{"LSET", "w", "x", long}}, {noNumber, []string{"LSET", "none", "x", long}}, {wrongType, []string{"LSET", "w", "99", long}}, {noKey, []string{"LSET", "none", "99", long}}, {noIndex, []string{"LSET", "s", "99", long}}, {noIndex, []string{"LSET", "s", "-4", long}}, {tooLarge, []string{"LSET", "s", "-3", long}},
		{syntax, []string{"LINSERT", "w", "UNDER", "a", long}}, {syntax, []string{"LINSERT", "none", "UNDER", "a", long}}, {wrongType, []string{"LINSERT", "w", "BEFORE", "a", long}}, {tooLarge, []string{"LINSERT", "s", "BEFORE", "a", long}},
		{noNumber, []string{"LRANGE", "w", "x", "0"}}, {noNumber, []string{"LRANGE", "w", "0", "x"}}, {wrongType, []string{"LRANGE", "w", "5", "1"}}, {noNumber, []string{"LTRIM", "w", "x", "0"}}, {noNumber, []string{"LTRIM", "w", "0", "x"}}, {wrongType, []string{"LTRIM", "w", "5", "1"}},
		{noNumber, []string{"LREM", "w", "x", "a"}}, {wrongType, []string{"LREM", "w", "1", long}},
		{syntax, []string{"LPOS", "w", "a", "RANK", "0", "BOGUS"}}, {noNumber, []string{"LPOS", "w", "a", "RANK", "x"}}, {noRank, []string{"LPOS", "w", "a", "RANK", "0"}}, {noCount, []string{"LPOS", "w", "a", "COUNT", "-1"}}, {noMaxlen, []string{"LPOS", "w", "a", "MAXLEN", "-1"}}, {wrongType, []string{"LPOS", "w", "a", "MAXLEN", "1"}},
		{syntax, []string{"LMOVE", "w", "s", "UP", "LEFT"}}, {syntax, []string{"LMOVE", "none", "w", "LEFT", "UP"}}, {syntax, []string{"LMOVE", "s", key, "LEFT", "UP"}}, {wrongType, []string{"LMOVE", "w", key, "LEFT", "LEFT"}}, {wrongType, []string{"LMOVE", "s", "w", "LEFT", "LEFT"}}, {tooLarge, []string{"LMOVE", "s", key, "LEFT", "LEFT"}}, {wrongType, []string{"RPOPLPUSH", "w", key}}, {wrongType, []string{"RPOPLPUSH", "s", "w"}},
		{noKeys, []string{"LMPOP", "0", "w", "UP"}}, {noKeys, []string{"LMPOP", "x", "w", "UP"}}, {syntax, []string{"LMPOP", "5", "w", "LEFT"}}, {syntax, []string{"LMPOP", "1", "w", "UP", "COUNT", "0"}}, {syntax, []string{"LMPOP", "1", "w", "LEFT", "COUNT", "0", "x"}}, {syntax, []string{"LMPOP", "1", "w", "LEFT", "COUNT", "x"}}, {noPops, []string{"LMPOP", "1", "w", "LEFT", "COUNT", "0"}}, {wrongType, []string{"LMPOP", "1", "w", "LEFT", "COUNT", "1"}}, {wrongType, []string{"LMPOP", "3", "none", "w", "s", "LEFT"}},
		{unknown, []string{"LMPOP", "0", "w"}}, {unknown, []string{"LSET", "w", "x"}}, {unknown, []string{"LPUSH", "w"}}, {unknown, []string{"LPOP", "w", "x", "y"}}, {unknown, []string{"LMOVE", "s", "w", "UP"}}, {unknown, []string{"LLEN", "w", "w"}},
	} {
		p := withLists(t)
		p.give(0, "w", api.KindZset)
		p.expire(0, "w", 7000)
		p.refusesWords(c.want, c.args...)
	}
}

// TestLooking: how many uses and marks a command makes: each word that is a key is got once, where the row looks at its kind.
func TestLooking(t *testing.T) {
	for _, c := range []struct {
		line        string
		uses, marks int
	}{
		// A use by looking, one by Put; a mark by Put and by Changed. A list that goes is given no mark.
		{"LPUSH s x", 1, 1}, {"LPUSH s x y z", 1, 1}, {"RPUSH none x", 1, 1}, {"LPUSH none x y", 1, 1}, {"LPUSH w x", 1, 0}, {"LPUSHX s x", 1, 1}, {"RPUSHX none x", 0, 0}, {"RPUSHX w x", 1, 0},
		{"LPOP s", 1, 1}, {"RPOP s 2", 1, 1}, {"LPOP s 3", 1, 0}, {"LPOP s 0", 1, 0}, {"LPOP s -1", 0, 0}, {"RPOP none", 0, 0}, {"RPOP none 2", 0, 0}, {"RPOP w 2", 1, 0}, {"LPOP one", 1, 0}, {"RPOP one 5", 1, 0},
		{"LLEN s", 1, 0}, {"LLEN none", 0, 0}, {"LLEN w", 1, 0}, {"LINDEX s 1", 1, 0}, {"LINDEX s 9", 1, 0}, {"LINDEX s x", 0, 0}, {"LINDEX w 1", 1, 0},
		{"LSET s 1 x", 1, 1}, {"LSET s 0 a", 1, 1}, {"LSET s 9 x", 1, 0}, {"LSET s x x", 0, 0}, {"LSET none 1 x", 0, 0}, {"LSET w 1 x", 1, 0},
		{"LINSERT s BEFORE b x", 1, 1}, {"LINSERT s AFTER z x", 1, 0}, {"LINSERT s UP b x", 0, 0}, {"LINSERT none AFTER b x", 0, 0}, {"LINSERT w AFTER b x", 1, 0},
		{"LRANGE s 0 -1", 1, 0}, {"LRANGE s 5 1", 1, 0}, {"LRANGE s x 1", 0, 0}, {"LRANGE w 0 1", 1, 0}, {"LTRIM s 0 -1", 1, 1}, {"LTRIM s 1 1", 1, 1}, {"LTRIM s 5 1", 1, 0}, {"LTRIM s 1 x", 0, 0}, {"LTRIM none 0 1", 0, 0}, {"LTRIM w 0 1", 1, 0},
		{"LREM s 0 a", 1, 1}, {"LREM s -1 c", 1, 1}, {"LREM s 1 z", 1, 0}, {"LREM s x a", 0, 0}, {"LREM none 0 a", 0, 0}, {"LREM one 0 e", 1, 0}, {"LREM w 0 a", 1, 0},
		{"LPOS s a", 1, 0}, {"LPOS s z", 1, 0}, {"LPOS s a RANK 0", 0, 0}, {"LPOS s a COUNT", 0, 0}, {"LPOS w a", 1, 0}, {"LPOS none a", 0, 0},
		{"LMOVE s t LEFT RIGHT", 2, 2}, {"LMOVE s none LEFT RIGHT", 2, 2}, {"LMOVE s s LEFT RIGHT", 2, 1}, {"LMOVE s s LEFT LEFT", 2, 1}, {"LMOVE one one LEFT LEFT", 2, 1}, {"LMOVE one t LEFT LEFT", 2, 1}, {"LMOVE one none LEFT LEFT", 2, 1}, {"LMOVE none s LEFT LEFT", 0, 0}, {"LMOVE w s LEFT LEFT", 1, 0}, {"LMOVE s w LEFT LEFT", 2, 0}, {"LMOVE none w LEFT LEFT", 0, 0}, {"LMOVE s t UP LEFT", 0, 0}, {"LMOVE s t LEFT UP", 0, 0},
		{"RPOPLPUSH s t", 2, 2}, {"RPOPLPUSH s s", 2, 1}, {"RPOPLPUSH one none", 2, 1}, {"RPOPLPUSH none s", 0, 0}, {"RPOPLPUSH s w", 2, 0},
		{"LMPOP 1 s LEFT", 1, 1}, {"LMPOP 2 s t LEFT", 1, 1}, {"LMPOP 3 none gone s LEFT COUNT 2", 1, 1}, {"LMPOP 1 s LEFT COUNT 9", 1, 0}, {"LMPOP 2 s s LEFT", 1, 1}, {"LMPOP 2 w s LEFT", 1, 0}, {"LMPOP 3 none w s LEFT", 1, 0}, {"LMPOP 2 s w LEFT", 1, 1}, {"LMPOP 1 none LEFT", 0, 0}, {"LMPOP 1 s LEFT COUNT 0", 0, 0}, {"LMPOP 0 s LEFT", 0, 0}, {"LMPOP 1 s UP", 0, 0},
		{"FLY s", 0, 0}, {"LLEN s s", 0, 0},
	} {
		p := withLists(t)
		p.give(0, "w", api.KindSet)
		p.want("RPUSH one e", ":1")
		p.expire(0, "s", 5000)
		p.askIn(1, "RPUSH", "probe", "1")
		mark := p.sp.Mark(1, "probe")
		p.ask(split(c.line)...)
		uses := p.sp.Idle(1, "probe")
		p.askIn(1, "RPUSH", "next", "1")
		if marks := p.sp.Mark(1, "next") - mark - 1; uses != c.uses || marks != c.marks {
			t.Errorf("%s: %d uses, %d marks; want %d, %d", c.line, uses, marks, c.uses, c.marks)
		}
	}
}

// TestLastUsed: of the keys of a command the one is used last that is got last.
func TestLastUsed(t *testing.T) {
	for line, order := range map[string]string{
		"LMOVE s t LEFT LEFT": "s t", "LMOVE t s LEFT LEFT": "t s", "RPOPLPUSH s t": "s t", "LMOVE s none LEFT LEFT": "s none", "LMOVE s w LEFT LEFT": "s w", "LMPOP 2 t s LEFT": "s t",
	} {
		p := withLists(t)
		p.give(0, "w", api.KindSet)
		p.ask(split(line)...)
		keys := strings.Fields(order)
		if p.sp.Idle(0, keys[0]) <= p.sp.Idle(0, keys[1]) || p.sp.Idle(0, keys[1]) != 0 {
			t.Errorf("%s: %s is idle for %d, %s for %d", line, keys[0], p.sp.Idle(0, keys[0]), keys[1], p.sp.Idle(0, keys[1]))
		}
	}
}

// TestExpiries: what becomes of an expiry: it stays where a list is worked on, and goes with its key.
func TestExpiries(t *testing.T) {
	for _, c := range []struct {
		line string
		due  int
	}{
		{"LPUSH s x", 5000}, {"RPUSH s x", 5000}, {"LPUSHX s x", 5000}, {"RPUSHX s x", 5000}, {"LPOP s", 5000}, {"RPOP s 2", 5000}, {"LPOP s 0", 5000}, {"LLEN s", 5000}, {"LINDEX s 0", 5000}, {"LSET s 0 x", 5000}, {"LINSERT s BEFORE a x", 5000}, {"LINSERT s BEFORE z x", 5000}, {"LRANGE s 0 -1", 5000}, {"LREM s 0 a", 5000}, {"LREM s 0 z", 5000}, {"LTRIM s 0 -1", 5000}, {"LTRIM s 1 1", 5000}, {"LPOS s a", 5000}, {"LMOVE s t LEFT LEFT", 5000}, {"LMOVE t s LEFT LEFT", 5000}, {"LMOVE s s LEFT RIGHT", 5000}, {"LMOVE s none LEFT LEFT", 5000}, {"RPOPLPUSH s t", 5000}, {"RPOPLPUSH t s", 5000}, {"LMPOP 1 s LEFT", 5000},
		{"LPOP s 3", 0}, {"RPOP s 9", 0}, {"LTRIM s 5 1", 0}, {"LMPOP 1 s LEFT COUNT 3", 0},
	} {
		p := withLists(t)
		p.expire(0, "s", 5000)
		p.ask(split(c.line)...)
		if at, ok := p.sp.Expiry(0, "s"); at != c.due || ok != (c.due > 0) {
			t.Errorf("%s: the expiry is %d, %v; want %d", c.line, at, ok, c.due)
		}
		p.want("RPUSH s more", fmt.Sprint(":", p.lenOf("s")+1))
		if at, _ := p.sp.Expiry(0, "s"); at != c.due && c.due > 0 || c.due == 0 && at != -1 {
			t.Errorf("%s and a push: the expiry is %d", c.line, at)
		}
	}
}

func (p *trial) lenOf(key string) int {
	v, ok := p.sp.Peek(0, key)
	if !ok {
		return 0
	}
	return v.Len()
}

// TestP11Time: a list is there until its time, and for no command from it on.
func TestP11Time(t *testing.T) {
	for _, sample := range samples() {
		for _, n := range []int{3999, 4000, 4001} {
			p := withLists(t)
			p.expire(0, "s", 5000)
			p.advance(n)
			other := withLists(t)
			if n >= 4000 {
				other.want("LPOP s 3", "[$a $b $c]")
			}
			if got, want := p.ask(strings.Fields(sample)...), other.ask(strings.Fields(sample)...); got != want {
				t.Errorf("%s at %d: %s; want %s", sample, 1000+n, got, want)
			}
		}
	}
}

// TestNoDatabase: a database that is none has no keys, and takes none.
func TestNoDatabase(t *testing.T) {
	for _, db := range []int{-1, 2, 16, 1 << 40, -1 << 63} {
		p := withLists(t)
		before := p.unused()
		for _, c := range []struct{ line, want string }{
			{"LPUSH s x", "-" + syntax}, {"RPUSH s x", "-" + syntax}, {"LPUSHX s x", ":0"}, {"RPUSHX s x", ":0"}, {"LPOP s", "_"}, {"RPOP s 2", "*_"}, {"LLEN s", ":0"}, {"LINDEX s 0", "_"}, {"LSET s 0 x", "-" + noKey}, {"LINSERT s BEFORE a x", ":0"}, {"LRANGE s 0 -1", "[]"}, {"LREM s 0 a", ":0"}, {"LTRIM s 0 0", "+OK"}, {"LPOS s a", "_"}, {"LPOS s a COUNT 0", "[]"}, {"LMOVE s t LEFT LEFT", "_"}, {"RPOPLPUSH s t", "_"}, {"LMPOP 2 s t LEFT", "*_"},
		} {
			if got := p.askIn(db, split(c.line)...); got != c.want {
				t.Errorf("%s in %d: %s; want %s", c.line, db, got, c.want)
			}
		}
		if p.unused() != before {
			t.Errorf("commands in %d changed other databases", db)
		}
	}
}

// TestDatabases: a command sees the keys of its database alone.
func TestDatabases(t *testing.T) {
	for _, sample := range samples() {
		for db := range 2 {
			p := newTrial(t, someLimits())
			p.askIn(1-db, "RPUSH", "s", "x", "y")
			p.askIn(1-db, "RPUSH", "k", "z")
			p.askIn(db, "RPUSH", "s", "a", "b", "c")
			p.askIn(db, "RPUSH", "t", "a", "b", "c")
			p.askIn(db, split(sample)...)
		}
	}
}

// TestFull: as many keys as there may be: a list that is there is worked on, one that is not, not made.
func TestFull(t *testing.T) {
	t.Parallel()
	sp := newSpace(someLimits())
	v := holding(api.KindString, someLimits())
	for i := range api.MaxKeys - 2 {
		sp.Put(i%2, fmt.Sprint("k", i), v)
	}
	want := func(words, want string) {
		t.Helper()
		before, mark := sp.Len(-1), sp.Mark(0, "l")
		if got := told(Do(sp, 0, split(words))); got != want {
			t.Errorf("%s: %s; want %s", words, got, want)
		}
		if strings.HasPrefix(want, "-") && (sp.Len(-1) != before || sp.Mark(0, "l") != mark) {
			t.Errorf("%s was refused, and has changed something", words)
		}
	}
	want("RPUSH l a b", ":2")
	want("RPUSH m a", ":1")
	want("RPUSH n a", "-"+tooMany)
	want("LPUSH n a b", "-"+tooMany)
	want("LPUSHX n a", ":0")
	want("LMOVE l n LEFT LEFT", "-"+tooMany)
	want("RPOPLPUSH m n", "-"+tooMany) // though m would go
	want("LRANGE l 0 -1", "[$a $b]")
	want("LRANGE m 0 -1", "[$a]")
	want("LPUSH l c", ":3")
	want("LMOVE m l LEFT RIGHT", "$a")
	want("RPOPLPUSH l n", "$a")
	want("LRANGE n 0 -1", "[$a]")
	want("LRANGE l 0 -1", "[$c $a $b]")
	if sp.Len(-1) != api.MaxKeys {
		t.Errorf("%d keys", sp.Len(-1))
	}
}
