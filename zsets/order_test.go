package zsets

import (
	"fmt"
	"strings"
	"testing"

	"cistern/api"
)

// TestP181Kinds: what each command tells of a key that is not there, that is a sorted set (a 1, b 2, c 3), that is a set (1, 2), and that is of another kind. The key one has 1 7, a 5.
func TestP181Kinds(t *testing.T) {
	wrong := "-" + wrongType
	for _, c := range []struct{ line, none, zset, set, other string }{
		{"ZADD k 1 a 9 x", ":2", ":1", wrong, wrong}, {"ZADD k 1 a", ":1", ":0", wrong, wrong}, {"ZADD k XX 9 a", ":0", ":0", wrong, wrong}, {"ZADD k XX 9 x", ":0", ":0", wrong, wrong}, {"ZADD k NX CH 9 a", ":1", ":0", wrong, wrong}, {"ZADD k INCR 2 a", "$2", "$3", wrong, wrong}, {"ZADD k XX INCR 2 x", "_", "_", wrong, wrong}, {"ZINCRBY k 2 a", "$2", "$3", wrong, wrong},
		{"ZREM k a x", ":0", ":1", wrong, wrong}, {"ZREM k x", ":0", ":0", wrong, wrong}, {"ZREM k a b c", ":0", ":3", wrong, wrong}, {"ZCARD k", ":0", ":3", wrong, wrong}, {"ZSCORE k a", "_", "$1", wrong, wrong}, {"ZSCORE k x", "_", "_", wrong, wrong}, {"ZMSCORE k a x", "[_ _]", "[$1 _]", wrong, wrong},
		{"ZRANK k b", "_", ":1", wrong, wrong}, {"ZRANK k x", "_", "_", wrong, wrong}, {"ZRANK k b WITHSCORE", "__", "[:1 $2]", wrong, wrong}, {"ZREVRANK k a", "_", ":2", wrong, wrong}, {"ZREVRANK k x WITHSCORE", "__", "__", wrong, wrong},
		{"ZCOUNT k 2 9", ":0", ":2", wrong, wrong}, {"ZLEXCOUNT k [a (c", ":0", ":2", wrong, wrong}, {"ZRANGE k 0 1", "[]", "[$a $b]", wrong, wrong}, {"ZRANGE k 3 2 BYSCORE REV", "[]", "[$c $b]", wrong, wrong}, {"ZRANGE k [b + BYLEX LIMIT 0 1", "[]", "[$b]", wrong, wrong},
		{"ZRANGESTORE d k 0 1", ":0", ":2", wrong, wrong}, {"ZRANGESTORE k k 0 1", ":0", ":2", wrong, wrong}, {"ZRANGESTORE k one 0 0", ":1", ":1", ":1", ":1"}, {"ZRANGESTORE k none 0 0", ":0", ":0", ":0", ":0"},
		{"ZREVRANGE k 0 0 WITHSCORES", "[]", "[$c $3]", wrong, wrong}, {"ZRANGEBYSCORE k 2 3", "[]", "[$b $c]", wrong, wrong}, {"ZREVRANGEBYSCORE k 3 2", "[]", "[$c $b]", wrong, wrong}, {"ZRANGEBYLEX k - (c", "[]", "[$a $b]", wrong, wrong}, {"ZREVRANGEBYLEX k + (a", "[]", "[$c $b]", wrong, wrong},
		{"ZREMRANGEBYRANK k 0 1", ":0", ":2", wrong, wrong}, {"ZREMRANGEBYSCORE k 3 9", ":0", ":1", wrong, wrong}, {"ZREMRANGEBYLEX k - +", ":0", ":3", wrong, wrong}, {"ZREMRANGEBYRANK k 7 9", ":0", ":0", wrong, wrong},
		{"ZPOPMIN k", "[]", "[$a $1]", wrong, wrong}, {"ZPOPMAX k 2", "[]", "[$c $3 $b $2]", wrong, wrong}, {"ZPOPMAX k 0", "[]", "[]", wrong, wrong}, {"ZRANDMEMBER k", "_", "$c", wrong, wrong}, {"ZRANDMEMBER k 0", "[]", "[]", wrong, wrong}, {"ZRANDMEMBER k 2 WITHSCORES", "[]", "[$c $3 $b $2]", wrong, wrong}, {"ZRANDMEMBER k 3", "[]", "[$a $b $c]", wrong, wrong}, {"ZRANDMEMBER k -3", "[]", "[$c $a $a]", wrong, wrong},
		{"ZUNION 1 k", "[]", "[$a $b $c]", "[$1 $2]", wrong}, {"ZUNION 2 k one WITHSCORES", "[$a $5 $1 $7]", "[$b $2 $c $3 $a $6 $1 $7]", "[$2 $1 $a $5 $1 $8]", wrong}, {"ZUNION 2 none k", "[]", "[$a $b $c]", "[$1 $2]", wrong},
		{"ZINTER 1 k", "[]", "[$a $b $c]", "[$1 $2]", wrong}, {"ZINTER 2 one k WITHSCORES", "[]", "[$a $6]", "[$1 $8]", wrong}, {"ZINTER 2 none k", "[]", "[]", "[]", wrong}, {"ZDIFF 2 k one", "[]", "[$b $c]", "[$2]", wrong}, {"ZDIFF 2 one k WITHSCORES", "[$a $5 $1 $7]", "[$1 $7]", "[$a $5]", wrong}, {"ZDIFF 2 none k", "[]", "[]", "[]", wrong},
		{"ZUNIONSTORE d 2 one k", ":2", ":4", ":3", wrong}, {"ZINTERSTORE d 2 one k", ":0", ":1", ":1", wrong}, {"ZDIFFSTORE d 2 one k", ":2", ":1", ":1", wrong}, {"ZUNIONSTORE k 1 one", ":2", ":2", ":2", ":2"}, {"ZINTERSTORE k 1 none", ":0", ":0", ":0", ":0"}, {"ZDIFFSTORE k 1 one", ":2", ":2", ":2", ":2"}, {"ZUNIONSTORE k 2 k one", ":2", ":4", ":3", wrong}, {"ZDIFFSTORE k 2 one k", ":2", ":1", ":1", wrong},
		{"ZINTERCARD 1 k", ":0", ":3", ":2", wrong}, {"ZINTERCARD 2 one k LIMIT 1", ":0", ":1", ":1", wrong}, {"ZINTERCARD 2 none k", ":0", ":0", ":0", wrong},
		{"ZSCAN k 0", "[$0 []]", "[$0 [$a $1 $b $2 $c $3]]", wrong, wrong}, {"ZSCAN k 77 MATCH [bc] COUNT 1", "[$0 []]", "[$0 [$b $2 $c $3]]", wrong, wrong},
	} {
		start := func() *trial {
			p := begun(t)
			p.want("ZADD one 7 1 5 a", ":2")
			return p
		}
		start().want(c.line, c.none)
		p := start()
		p.want("ZADD k 1 a 3 c 2 b", ":3")
		p.expire(0, "k", 7000)
		p.want(c.line, c.zset)
		for _, kind := range others() {
			want := c.other
			if kind == api.KindSet {
				want = c.set
			}
			p = start()
			p.give(0, "k", kind)
			p.expire(0, "k", 7000)
			if want == wrong {
				p.refuses(c.line, wrongType)
			} else {
				p.want(c.line, want)
			}
		}
	}
}

// TestP181Order: of two checks that fail the one is told that the row names first.
func TestP181Order(t *testing.T) {
	long, key, pattern := strings.Repeat("v", api.MaxElement+1), strings.Repeat("k", api.MaxKey+1), strings.Repeat("p", api.MaxPattern+1)
	for _, c := range []struct {
		want string
		args []string
	}{
		{syntax, []string{"ZADD", "w", "NX", "XX"}}, {syntax, []string{"ZADD", "w", "NX", "XX", "x"}}, {syntax, []string{"ZADD", "w", "x", "a", "1"}}, {newAndOld, []string{"ZADD", "w", "NX", "XX", "GT", "LT", "x", "a"}}, {newAndOld, []string{"ZADD", "w", "XX", "NX", "INCR", "x", "a", "x", "b"}}, {notTogether, []string{"ZADD", "w", "GT", "NX", "INCR", "x", "a", "x", "b"}}, {onlyOne, []string{"ZADD", "w", "INCR", "x", "a", "x", "b"}}, {noScore, []string{"ZADD", "w", "x", "a"}}, {noScore, []string{"ZADD", "w", "1", long, "x", "a"}}, {wrongType, []string{"ZADD", "w", "1", long}}, {wrongType, []string{"ZADD", "w", "INCR", "1", "1"}}, {tooLarge, []string{"ZADD", key, "1", long}},
		{noScore, []string{"ZINCRBY", "w", "x", "a"}}, {wrongType, []string{"ZINCRBY", "w", most, long}}, {wrongType, []string{"ZREM", "w", long}}, {wrongType, []string{"ZMSCORE", "w", "a", long}}, {syntax, []string{"ZRANK", "w", "a", "x"}}, {syntax, []string{"ZREVRANK", "w", "a", "x"}}, {wrongType, []string{"ZRANK", "w", "a", "WITHSCORE"}},
		{noBound, []string{"ZCOUNT", "w", "x", "1"}}, {noLex, []string{"ZLEXCOUNT", "w", "x", "+"}}, {syntax, []string{"ZRANGE", "w", "x", "y", "LIMIT", "x", "y", "BOGUS"}}, {syntax, []string{"ZRANGE", "w", "x", "y", "BYLEX", "BYSCORE", "WITHSCORES"}}, {noLimit, []string{"ZRANGE", "w", "x", "y", "LIMIT", "x", "y"}}, {noScores, []string{"ZRANGE", "w", "x", "y", "BYLEX", "WITHSCORES", "LIMIT", "x", "y"}}, {noNumber, []string{"ZRANGE", "w", "x", "y", "BYLEX", "LIMIT", "x", "y"}}, {noLex, []string{"ZRANGE", "w", "x", "y", "BYLEX", "LIMIT", "1", "2"}}, {noBound, []string{"ZRANGE", "w", "x", "y", "BYSCORE"}}, {noNumber, []string{"ZRANGE", "w", "x", "y"}}, {wrongType, []string{"ZRANGE", "w", "9", "1"}}, {wrongType, []string{"ZRANGE", "w", "1", "2", "BYSCORE", "LIMIT", "-1", "0"}},
		{syntax, []string{"ZRANGESTORE", key, "w", "x", "y", "WITHSCORES"}}, {noLimit, []string{"ZRANGESTORE", key, "w", "x", "y", "LIMIT", "0", "1"}}, {noNumber, []string{"ZRANGESTORE", key, "w", "x", "y"}}, {wrongType, []string{"ZRANGESTORE", key, "w", "0", "-1"}}, {tooLarge, []string{"ZRANGESTORE", key, "z", "0", "-1"}}, {syntax, []string{"ZREVRANGE", "w", "x", "y", "z"}}, {noNumber, []string{"ZREVRANGE", "w", "x", "y"}}, {syntax, []string{"ZRANGEBYSCORE", "w", "x", "y", "LIMIT", "x"}}, {noNumber, []string{"ZRANGEBYSCORE", "w", "x", "y", "LIMIT", "x", "1"}}, {noBound, []string{"ZREVRANGEBYSCORE", "w", "x", "y", "LIMIT", "1", "1"}}, {noLex, []string{"ZRANGEBYLEX", "w", "x", "y"}}, {noNumber, []string{"ZREVRANGEBYLEX", "w", "x", "y", "LIMIT", "1", "x"}},
		{noNumber, []string{"ZREMRANGEBYRANK", "w", "x", "1"}}, {noBound, []string{"ZREMRANGEBYSCORE", "w", "1", "x"}}, {noLex, []string{"ZREMRANGEBYLEX", "w", "-", "x"}}, {notPositive, []string{"ZPOPMIN", "w", "-1"}}, {notPositive, []string{"ZPOPMAX", "w", "x"}}, {wrongType, []string{"ZPOPMAX", "w", "0"}}, {syntax, []string{"ZRANDMEMBER", "w", "x", "y"}}, {noSample, []string{"ZRANDMEMBER", "w", "1048577", "WITHSCORES"}}, {wrongType, []string{"ZRANDMEMBER", "w", "0", "WITHSCORES"}},
		{noKeys, []string{"ZUNION", "0", "w", "BOGUS"}}, {manyKeys, []string{"ZUNION", "4", "w", "WEIGHTS", "x"}}, {syntax, []string{"ZUNION", "1", "w", "BOGUS"}}, {noWeight, []string{"ZINTER", "1", "w", "WEIGHTS", "x"}}, {wrongType, []string{"ZINTER", "2", "top", "w", "WEIGHTS", "2", "2"}}, {wrongType, []string{"ZUNION", "3", "top", "top", "w"}}, {noKeys, []string{"ZDIFF", "x", "w", "BOGUS"}}, {syntax, []string{"ZDIFF", "1", "w", "WEIGHTS", "x"}}, {noKeys, []string{"ZUNIONSTORE", key, "0", "w"}}, {manyKeys, []string{"ZINTERSTORE", key, "2", "w"}}, {syntax, []string{"ZDIFFSTORE", key, "1", "w", "WITHSCORES"}}, {wrongType, []string{"ZUNIONSTORE", key, "1", "w"}}, {outOfRange, []string{"ZUNIONSTORE", key, "2", "top", "top"}}, {tooLarge, []string{"ZUNIONSTORE", key, "1", "top"}},
		{noKeys, []string{"ZINTERCARD", "0", "w", "BOGUS"}}, {manyKeys, []string{"ZINTERCARD", "4", "w", "LIMIT", "-1"}}, {syntax, []string{"ZINTERCARD", "1", "w", "LIMIT", "-1", "more"}}, {below, []string{"ZINTERCARD", "1", "w", "LIMIT", "-1"}}, {wrongType, []string{"ZINTERCARD", "2", "none", "w"}},
		{noCursor, []string{"ZSCAN", "w", "-1", "BOGUS"}}, {noCursor, []string{"ZSCAN", "w", "x", "MATCH", pattern}}, {syntax, []string{"ZSCAN", "w", "0", "COUNT", "0"}}, {syntax, []string{"ZSCAN", "w", "0", "MATCH", pattern}}, {wrongType, []string{"ZSCAN", "w", "0", "MATCH", "a", "COUNT", "1"}},
		{unknown, []string{"ZSCAN", "w", "x", "COUNT", "0", "MATCH", "a", "more"}}, {unknown, []string{"ZADD", "w", "x"}}, {unknown, []string{"ZINTERCARD", "0"}}, {unknown, []string{"ZUNIONSTORE", "w", "0"}}, {unknown, []string{"ZPOPMIN", "w", "x", "y"}}, {unknown, []string{"ZRANDMEMBER", "w", "x", "y", "z"}}, {unknown, []string{"ZRANK", "w"}}, {unknown, []string{"ZCARD", "w", "w"}}, {unknown, []string{"ZRANGESTORE", "d", "w", "x"}},
	} {
		p := withZsets(t)
		p.ask("ZADD", "top", most, "a")
		p.give(0, "w", api.KindHash)
		p.expire(0, "w", 7000)
		p.refusesWords(c.want, c.args...)
	}
}

// TestLooking: how many uses and marks a command makes: each word that is a key is got once, where the row looks at its kind; a dest is not, and nothing is told to the space where nothing has come, gone, or got another score.
func TestLooking(t *testing.T) {
	for _, c := range []struct {
		line        string
		uses, marks int
	}{
		// A use by looking, one by Put; a mark by Put and by Changed. A sorted set that goes is given no mark.
		{"ZADD z 5 x", 1, 1}, {"ZADD z 5 x 6 y 7 a", 1, 1}, {"ZADD z 1 a", 1, 0}, {"ZADD z 7 a", 1, 1}, {"ZADD z NX 7 a", 1, 0}, {"ZADD z XX 7 x", 1, 0}, {"ZADD none 5 x", 1, 1}, {"ZADD none 5 x 6 y 7 x", 1, 1}, {"ZADD none XX 5 x", 0, 0}, {"ZADD w 1 x", 1, 0}, {"ZADD z x a", 0, 0}, {"ZADD z NX XX 1 a", 0, 0}, {"ZADD z INCR 5 a", 1, 1}, {"ZADD z INCR 0 a", 1, 0}, {"ZADD z XX INCR 5 x", 1, 0}, {"ZADD top INCR 1 a", 1, 0}, {"ZINCRBY z 5 a", 1, 1}, {"ZINCRBY z 0 a", 1, 0}, {"ZINCRBY none 5 a", 1, 1}, {"ZINCRBY z x a", 0, 0},
		{"ZREM z a", 1, 1}, {"ZREM z a b", 1, 1}, {"ZREM z a b c", 1, 0}, {"ZREM z x", 1, 0}, {"ZREM none x", 0, 0}, {"ZREM one e", 1, 0}, {"ZREM w 1", 1, 0}, {"ZCARD z", 1, 0}, {"ZCARD none", 0, 0}, {"ZCARD w", 1, 0}, {"ZSCORE z a", 1, 0}, {"ZMSCORE z a b c", 1, 0}, {"ZRANK z a", 1, 0}, {"ZRANK z a WITHSCORE", 1, 0}, {"ZREVRANK z x WITHSCORE", 1, 0}, {"ZRANK z a x", 0, 0},
		{"ZCOUNT z 1 2", 1, 0}, {"ZCOUNT z x 2", 0, 0}, {"ZLEXCOUNT z - +", 1, 0}, {"ZLEXCOUNT z x +", 0, 0}, {"ZRANGE z 0 -1", 1, 0}, {"ZRANGE z 0 -1 BOGUS", 0, 0}, {"ZRANGE z x -1", 0, 0}, {"ZRANGE w 0 -1", 1, 0}, {"ZRANGE z 1 2 BYSCORE LIMIT 0 1", 1, 0}, {"ZREVRANGE z 0 -1", 1, 0}, {"ZRANGEBYSCORE z 1 2", 1, 0}, {"ZRANGEBYLEX z - +", 1, 0}, {"ZREVRANGEBYSCORE z 2 1", 1, 0}, {"ZREVRANGEBYLEX z + -", 1, 0},
		{"ZRANGESTORE d z 0 1", 2, 1}, {"ZRANGESTORE z z 0 1", 2, 1}, {"ZRANGESTORE one z 0 1", 2, 1}, {"ZRANGESTORE w z 9 9", 1, 0}, {"ZRANGESTORE one none 0 1", 0, 0}, {"ZRANGESTORE one w 0 1", 1, 0}, {"ZRANGESTORE one z x 1", 0, 0},
		{"ZREMRANGEBYRANK z 0 0", 1, 1}, {"ZREMRANGEBYRANK z 0 -1", 1, 0}, {"ZREMRANGEBYRANK z 7 9", 1, 0}, {"ZREMRANGEBYSCORE z 1 1", 1, 1}, {"ZREMRANGEBYSCORE z 7 9", 1, 0}, {"ZREMRANGEBYSCORE z -inf inf", 1, 0}, {"ZREMRANGEBYLEX z - [b", 1, 1}, {"ZREMRANGEBYLEX z + -", 1, 0}, {"ZREMRANGEBYLEX none - +", 0, 0},
		{"ZPOPMIN z", 1, 1}, {"ZPOPMIN z 2", 1, 1}, {"ZPOPMIN z 3", 1, 0}, {"ZPOPMIN z 0", 1, 0}, {"ZPOPMIN z -1", 0, 0}, {"ZPOPMIN none", 0, 0}, {"ZPOPMAX one", 1, 0}, {"ZPOPMAX w 2", 1, 0}, {"ZRANDMEMBER z", 1, 0}, {"ZRANDMEMBER z 2", 1, 0}, {"ZRANDMEMBER z -9 WITHSCORES", 1, 0}, {"ZRANDMEMBER none 2", 0, 0}, {"ZRANDMEMBER z x", 0, 0}, {"ZRANDMEMBER w", 1, 0},
		{"ZUNION 2 z y", 2, 0}, {"ZUNION 3 z z s", 3, 0}, {"ZUNION 3 none z y", 2, 0}, {"ZUNION 3 z w y", 2, 0}, {"ZUNION 3 w z y", 1, 0}, {"ZUNION 1 none", 0, 0}, {"ZUNION 2 z y BOGUS", 0, 0}, {"ZUNION 2 z y WEIGHTS 1 x", 0, 0}, {"ZUNION 2 top top", 2, 0}, {"ZINTER 3 none z y", 2, 0}, {"ZINTER 2 z z WITHSCORES", 2, 0}, {"ZINTER 3 z y w", 3, 0}, {"ZDIFF 3 z z y", 3, 0}, {"ZDIFF 2 none z", 1, 0}, {"ZDIFF 2 w z", 1, 0},
		{"ZUNIONSTORE none 2 z y", 3, 1}, {"ZUNIONSTORE z 2 z z", 3, 1}, {"ZUNIONSTORE w 1 z", 2, 1}, {"ZUNIONSTORE none 1 none", 0, 0}, {"ZUNIONSTORE one 2 top top", 2, 0}, {"ZINTERSTORE one 2 z y", 3, 1}, {"ZINTERSTORE one 2 z none", 1, 0}, {"ZINTERSTORE none 2 z one", 2, 0}, {"ZDIFFSTORE w 2 z z", 2, 0}, {"ZDIFFSTORE one 3 z y w", 3, 0}, {"ZDIFFSTORE one 2 w z", 1, 0}, {"ZDIFFSTORE s 2 s z", 3, 1},
		{"ZINTERCARD 2 z y", 2, 0}, {"ZINTERCARD 3 z z z LIMIT 1", 3, 0}, {"ZINTERCARD 2 none z", 1, 0}, {"ZINTERCARD 2 w z", 1, 0}, {"ZINTERCARD 0 z", 0, 0}, {"ZINTERCARD 2 z", 0, 0}, {"ZINTERCARD 1 z LIMIT -1", 0, 0},
		{"ZSCAN z 0", 1, 0}, {"ZSCAN z 5 COUNT 1", 1, 0}, {"ZSCAN none 0", 0, 0}, {"ZSCAN w 0", 1, 0}, {"ZSCAN z x", 0, 0}, {"ZSCAN z 0 COUNT 0", 0, 0},
		{"FLY z", 0, 0}, {"ZCARD z z", 0, 0},
	} {
		p := withZsets(t)
		p.ask("ZADD", "top", most, "a")
		p.give(0, "w", api.KindList)
		p.expire(0, "z", 5000)
		p.askIn(1, "ZADD", "probe", "1", "1")
		mark := p.sp.Mark(1, "probe")
		p.ask(split(c.line)...)
		uses := p.sp.Idle(1, "probe")
		p.askIn(1, "ZADD", "next", "1", "1")
		if marks := p.sp.Mark(1, "next") - mark - 1; uses != c.uses || marks != c.marks {
			t.Errorf("%s: %d uses, %d marks; want %d, %d", c.line, uses, marks, c.uses, c.marks)
		}
	}
}

// TestLastUsed: of the keys of a command the one is used last that is got or put last.
func TestLastUsed(t *testing.T) {
	for line, order := range map[string]string{
		"ZUNION 3 y one z": "y one z", "ZINTER 3 z y one": "z y one", "ZDIFF 3 z w y": "z w", "ZUNION 3 s z y": "s z y", "ZUNIONSTORE d 2 z y": "z y d", "ZUNIONSTORE z 2 z y": "y z", "ZINTERSTORE d 2 y one": "y one", "ZDIFFSTORE d 2 z y": "z y d", "ZINTERCARD 3 one z y": "one z y", "ZINTERCARD 3 one w y": "one w", "ZRANGESTORE d z 0 1": "z d", "ZRANGESTORE y z 0 1": "z y",
	} {
		p := withZsets(t)
		p.give(0, "w", api.KindHash)
		p.ask(split(line)...)
		keys := strings.Fields(order)
		for i, key := range keys {
			if got, want := p.sp.Idle(0, key), len(keys)-1-i; got != want {
				t.Errorf("%s: %s is idle for %d; want %d", line, key, got, want)
			}
		}
	}
}

// TestExpiries: what becomes of an expiry: it stays where a sorted set is worked on, and goes with its key, or where its key is made anew.
func TestExpiries(t *testing.T) {
	const stays, goes, none = 5000, 0, -1
	dues := map[string]int{}
	for _, sample := range samples() {
		dues[sample] = stays
	}
	for _, line := range []string{"zrem z a b c", "zremrangebyrank z 0 -1", "zremrangebyscore z -inf inf", "zremrangebylex z - +", "zpopmin z 9", "zpopmax z 3", "zinterstore z 2 z one", "zdiffstore z 2 z z", "zrangestore z k 0 -1"} {
		dues[line] = goes
	}
	for _, line := range []string{"zrangestore z z 1 2 byscore limit 1 1", "zunionstore z 2 z y aggregate sum", "zunionstore z 1 z", "zinterstore z 2 z y", "zdiffstore z 2 z one", "zrangestore z y 0 -1"} {
		dues[line] = none
	}
	for line, due := range dues {
		p := withZsets(t)
		p.expire(0, "z", 5000)
		p.ask(split(line)...)
		p.due("z", due)
		p.ask("ZADD", "z", "1", "more")
		if due == goes {
			due = none // what comes under the same name later has none
		}
		p.due("z", due)
	}
}

// TestP11Time: a sorted set is there until its time, and for no command from it on.
func TestP11Time(t *testing.T) {
	for _, sample := range samples() {
		for _, n := range []int{3999, 4000, 4001} {
			p := withZsets(t)
			p.expire(0, "z", 5000)
			p.advance(n)
			other := withZsets(t)
			if n >= 4000 {
				other.want("ZREM z a b c", ":3")
			}
			if got, want := p.ask(strings.Fields(sample)...), other.ask(strings.Fields(sample)...); got != want {
				t.Errorf("%s at %d: %s; want %s", sample, 1000+n, got, want)
			}
		}
	}
}

// TestNoDatabase: a database that is none has no keys, and takes none.
func TestNoDatabase(t *testing.T) {
	for _, db := range []int{-1, 2, 16, 1 << 40, -1 << 63} {
		p := withZsets(t)
		before := p.unused()
		for _, c := range []struct{ line, want string }{
			{"ZADD z 1 x", "-" + syntax}, {"ZADD z XX 1 x", ":0"}, {"ZINCRBY z 1 x", "-" + syntax}, {"ZREM z a", ":0"}, {"ZCARD z", ":0"}, {"ZSCORE z a", "_"}, {"ZMSCORE z a b", "[_ _]"}, {"ZRANK z a", "_"}, {"ZREVRANK z a WITHSCORE", "__"}, {"ZCOUNT z 1 2", ":0"}, {"ZLEXCOUNT z - +", ":0"}, {"ZRANGE z 0 -1", "[]"}, {"ZRANGESTORE d z 0 -1", ":0"}, {"ZREVRANGE z 0 -1", "[]"}, {"ZRANGEBYSCORE z 1 2", "[]"}, {"ZREMRANGEBYRANK z 0 -1", ":0"}, {"ZPOPMIN z", "[]"}, {"ZPOPMAX z 2", "[]"}, {"ZRANDMEMBER z", "_"}, {"ZRANDMEMBER z -2", "[]"}, {"ZUNION 2 z y", "[]"}, {"ZINTER 2 z y", "[]"}, {"ZDIFF 2 z y", "[]"}, {"ZUNIONSTORE z 2 z y", ":0"}, {"ZINTERCARD 2 z y", ":0"}, {"ZSCAN z 0", "[$0 []]"},
		} {
			if got := p.askIn(db, split(c.line)...); got != c.want {
				t.Errorf("%s in %d: %s; want %s", c.line, db, got, c.want)
			}
		}
		if p.unused() != before {
			t.Errorf("commands in %d changed other databases", db)
		}
	}
}

// TestDatabases: a command sees the keys of its database alone.
func TestDatabases(t *testing.T) {
	for _, sample := range samples() {
		for db := range 2 {
			p := newTrial(t, someLimits())
			p.askIn(1-db, "ZADD", "z", "1", "x", "2", "y")
			p.askIn(1-db, "ZADD", "k", "1", "z", "2", "a")
			p.askIn(db, "ZADD", "z", "1", "a", "2", "b", "2", "c")
			p.askIn(db, "ZADD", "y", "5", "b", "-1", "c", "9", "d")
			p.giveSet(db, "s", "a", "b", "x")
			p.askIn(db, split(sample)...)
		}
	}
}

// TestFull: as many keys as there may be: a sorted set that is there is worked on, one that is not, not made.
func TestFull(t *testing.T) {
	t.Parallel()
	sp := newSpace(someLimits())
	v := holding(api.KindString, someLimits())
	for i := range api.MaxKeys - 2 {
		sp.Put(i%2, fmt.Sprint("k", i), v)
	}
	want := func(words, want string) {
		t.Helper()
		before, mark := sp.Len(-1), sp.Mark(0, "z")
		if got := told(Do(sp, 0, split(words))); got != want {
			t.Errorf("%s: %s; want %s", words, got, want)
		}
		if strings.HasPrefix(want, "-") && (sp.Len(-1) != before || sp.Mark(0, "z") != mark) {
			t.Errorf("%s was refused, and has changed something", words)
		}
	}
	want("ZADD z 1 a 2 b", ":2")
	want("ZADD m 3 a", ":1")
	want("ZADD n 1 a", "-"+tooMany)
	want("ZADD n XX 1 a", ":0")
	want("ZADD n INCR 1 a", "-"+tooMany)
	want("ZINCRBY n 1 a", "-"+tooMany)
	want("ZRANGESTORE n z 0 -1", "-"+tooMany)
	want("ZRANGESTORE n z 9 9", ":0")
	want("ZUNIONSTORE n 2 z m", "-"+tooMany)
	want("ZINTERSTORE n 2 z m", "-"+tooMany)
	want("ZDIFFSTORE n 2 z m", "-"+tooMany)
	want("ZDIFFSTORE n 2 m z", ":0")
	want("ZRANGE z 0 -1 WITHSCORES", "[$a $1 $b $2]")
	want("ZADD z 5 c", ":1")
	want("ZINCRBY z 1 c", "$6")
	want("ZUNIONSTORE k0 2 z m", ":3") // in the place of a string
	want("ZRANGE k0 0 -1 WITHSCORES", "[$b $2 $a $4 $c $6]")
	want("ZPOPMIN m", "[$a $3]")
	want("ZADD n 1 a", ":1")
	want("ZADD o 1 a", "-"+tooMany)
}
