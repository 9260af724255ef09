package zsets

import (
	"fmt"
	"strings"
	"testing"
)

// TestP181Ask: lengths, scores and ranks of members that are there and that are not, kept in all ways.
func TestP181Ask(t *testing.T) {
	for _, limits := range allLimits() {
		p := newTrial(t, limits)
		p.want("ZADD z 2 b 1 a 1 c -3 '' 2 B", ":5") // in order: '', a, c, B, b
		for _, c := range []struct{ line, want string }{
			{"ZCARD z", ":5"}, {"ZCARD none", ":0"},
			{"ZSCORE z a", "$1"}, {"ZSCORE z ''", "$-3"}, {"ZSCORE z B", "$2"}, {"ZSCORE z x", "_"}, {"ZSCORE z 1", "_"}, {"ZSCORE none a", "_"},
			{"ZMSCORE z a", "[$1]"}, {"ZMSCORE z x", "[_]"}, {"ZMSCORE z a x b a A ''", "[$1 _ $2 $1 _ $-3]"}, {"ZMSCORE none a b", "[_ _]"},
			{"ZRANK z ''", ":0"}, {"ZRANK z a", ":1"}, {"ZRANK z c", ":2"}, {"ZRANK z B", ":3"}, {"ZRANK z b", ":4"}, {"ZRANK z x", "_"}, {"ZRANK none a", "_"},
			{"ZREVRANK z ''", ":4"}, {"ZREVRANK z a", ":3"}, {"ZREVRANK z c", ":2"}, {"ZREVRANK z B", ":1"}, {"ZREVRANK z b", ":0"}, {"ZREVRANK z x", "_"}, {"ZREVRANK none a", "_"},
			{"ZRANK z '' WITHSCORE", "[:0 $-3]"}, {"ZRANK z b withscore", "[:4 $2]"}, {"ZRANK z x WITHSCORE", "__"}, {"ZRANK none a WITHSCORE", "__"}, {"ZREVRANK z '' WithScore", "[:4 $-3]"}, {"ZREVRANK z b WITHSCORE", "[:0 $2]"}, {"ZREVRANK z x WITHSCORE", "__"}, {"ZREVRANK none a WITHSCORE", "__"},
			{"ZRANK z WITHSCORE", "_"}, {"ZRANK z WITHSCORE WITHSCORE", "__"},
		} {
			p.keeps(c.want, split(c.line)...)
		}
		for _, name := range []string{"ZRANK", "ZREVRANK"} {
			for _, word := range []string{"WITHSCORES", "WITHSCOR", "", "x", "REV", "1", " WITHSCORE"} {
				for _, member := range []string{"a", "x"} {
					p.refusesWords(syntax, name, "z", member, word)
					p.refusesWords(syntax, name, "none", member, word)
				}
			}
		}
	}
}

// TestP181AskMany: many members asked for at once, of small and large sorted sets, those that are there among others.
func TestP181AskMany(t *testing.T) {
	for _, limits := range allLimits() {
		for _, n := range []int{1, 4, 5, 40, 300} {
			p := newTrial(t, limits)
			p.ask(numbered("ZADD", "z", "m", 0, n)...)
			for _, asked := range []int{few - 1, few, few + 1, n + 9} {
				var want []string
				for i := range asked {
					if i < n {
						want = append(want, fmt.Sprint("$", i))
					} else {
						want = append(want, "_")
					}
				}
				p.keeps("["+strings.Join(want, " ")+"]", numberedNames("ZMSCORE", "z", "m", 0, asked)...)
			}
		}
	}
}

// scoreRanges are two ends each, and which members of withRange lie between; lexRanges likewise.
var scoreRanges = []struct{ low, high, want string }{
	{"-inf", "+inf", "a b c d e"}, {"-inf", "inf", "a b c d e"}, {"(-inf", "(+INF", "a b c d e"}, {"-InF", "(iNf", "a b c d e"}, {"1", "3", "b c d"}, {"(1", "3", "d"}, {"1", "(3", "b c"}, {"(1", "(3", ""}, {"-5", "1", "a b c"}, {"(-5", "1", "b c"}, {"-5", "(1", "a"}, {"(-5", "(1", ""}, {"1", "1", "b c"}, {"(1", "1", ""}, {"1", "(1", ""}, {"(1", "(1", ""}, {"2", "2", ""}, {"0", "2", "b c"},
	{"3", "1", ""}, {"+inf", "-inf", ""}, {"+inf", "+inf", ""}, {"-inf", "-inf", ""}, {"+inf", "9", ""}, {"9", "-inf", ""}, {"9", "+inf", "e"}, {"(9", "+inf", ""}, {"-inf", "-5", "a"}, {"-inf", "(-5", ""}, {"-9007199254740991", "9007199254740991", "a b c d e"}, {"(-9007199254740991", "(9007199254740991", "a b c d e"}, {"10", "20", ""}, {"-20", "-10", ""},
}

var lexRanges = []struct{ low, high, want string }{
	{"-", "+", "a b c d e"}, {"[a", "[c", "a b c"}, {"(a", "[c", "b c"}, {"[a", "(c", "a b"}, {"(a", "(c", "b"}, {"[b", "[b", "b"}, {"(b", "[b", ""}, {"[b", "(b", ""}, {"(b", "(b", ""}, {"(a", "(b", ""}, {"-", "[b", "a b"}, {"-", "(b", "a"}, {"[d", "+", "d e"}, {"(d", "+", "e"}, {"[aa", "[cz", "b c"}, {"[", "[b", "a b"}, {"(", "(b", "a"}, {"[", "[", ""}, {"-", "[", ""}, {"[", "+", "a b c d e"}, {"[c", "[a", ""}, {"+", "-", ""}, {"+", "+", ""}, {"-", "-", ""}, {"+", "[z", ""}, {"[a", "-", ""}, {"[A", "[Z", ""}, {"[e", "[zzz", "e"}, {"[ee", "+", ""},
}

// withRange is a trial whose key z has a to e with rising scores (-5, 1, 1, 3, 9), and an expiry.
func withRange(t testing.TB, i int) *trial {
	t.Helper()
	p := newTrial(t, allLimits()[i%3])
	p.want("ZADD z 9 e 1 c 3 d 1 b -5 a", ":5")
	p.expire(0, "z", 5000)
	return p
}

// TestP181Counts: open and closed ends, infinite ones, ends the wrong way round, of scores and of members.
func TestP181Counts(t *testing.T) {
	for i := range allLimits() {
		p := withRange(t, i)
		for _, c := range scoreRanges {
			p.keeps(fmt.Sprint(":", len(strings.Fields(c.want))), "ZCOUNT", "z", c.low, c.high)
			p.keeps(":0", "ZCOUNT", "none", c.low, c.high)
		}
		for _, c := range lexRanges {
			p.keeps(fmt.Sprint(":", len(strings.Fields(c.want))), "ZLEXCOUNT", "z", c.low, c.high)
			p.keeps(":0", "ZLEXCOUNT", "none", c.low, c.high)
		}
	}
}

func noBounds() []string {
	return append(noNumbers(), "9007199254740992", "-9007199254740992", "(9007199254740992", "1.5", "(1.5", "(", "((1", "[1", "(x", "1)", "infinity", "-infinity", "--inf", "(+", "+", "-", "nan", "-inf ", "(inf)")
}

func noLexes() []string {
	return []string{"", "a", "x", "1", "++", "--", "+x", "-x", "+inf", "-inf", "inf", " [a", "]a", ")a", "\x00", "{a", "a["}
}

// TestP181Bounds: words that are no bounds, as the one end, as the other and as both, whatever the key is.
func TestP181Bounds(t *testing.T) {
	for _, kind := range kinds {
		p := withZsets(t)
		p.give(0, "w", kind)
		for _, key := range []string{"z", "none", "w"} {
			for _, word := range noBounds() {
				for _, name := range []string{"ZCOUNT", "ZRANGEBYSCORE", "ZREVRANGEBYSCORE", "ZREMRANGEBYSCORE"} {
					p.refusesWords(noBound, name, key, word, "1")
					p.refusesWords(noBound, name, key, "1", word)
					p.refusesWords(noBound, name, key, word, word)
				}
				p.refusesWords(noBound, "ZRANGE", key, "1", word, "BYSCORE")
				p.refusesWords(noBound, "ZRANGE", key, word, "1", "REV", "BYSCORE", "LIMIT", "0", "1")
				p.refusesWords(noBound, "ZRANGESTORE", "d", key, word, "1", "BYSCORE")
			}
			for _, word := range noLexes() {
				for _, name := range []string{"ZLEXCOUNT", "ZRANGEBYLEX", "ZREVRANGEBYLEX", "ZREMRANGEBYLEX"} {
					p.refusesWords(noLex, name, key, word, "+")
					p.refusesWords(noLex, name, key, "-", word)
					p.refusesWords(noLex, name, key, word, word)
				}
				p.refusesWords(noLex, "ZRANGE", key, "-", word, "BYLEX")
				p.refusesWords(noLex, "ZRANGE", key, word, "-", "REV", "BYLEX", "LIMIT", "0", "1")
				p.refusesWords(noLex, "ZRANGESTORE", "d", key, word, "+", "BYLEX")
			}
			for _, word := range noNumbers() {
				p.refusesWords(noNumber, "ZRANGE", key, word, "1")
				p.refusesWords(noNumber, "ZRANGE", key, "1", word, "REV", "WITHSCORES")
				p.refusesWords(noNumber, "ZREVRANGE", key, word, "1")
				p.refusesWords(noNumber, "ZREVRANGE", key, "1", word, "WITHSCORES")
				p.refusesWords(noNumber, "ZREMRANGEBYRANK", key, word, "1")
				p.refusesWords(noNumber, "ZREMRANGEBYRANK", key, "1", word)
				p.refusesWords(noNumber, "ZRANGESTORE", "d", key, "1", word)
				p.refusesWords(noNumber, "ZRANGE", key, "1", "2", "BYSCORE", "LIMIT", word, "1")
				p.refusesWords(noNumber, "ZRANGEBYSCORE", key, "1", "2", "LIMIT", "1", word)
				p.refusesWords(noNumber, "ZREVRANGEBYSCORE", key, "1", "2", "WITHSCORES", "LIMIT", word, word)
				p.refusesWords(noNumber, "ZRANGEBYLEX", key, "-", "+", "LIMIT", "1", word)
				p.refusesWords(noNumber, "ZREVRANGEBYLEX", key, "-", "+", "LIMIT", word, "1")
				p.refusesWords(noNumber, "ZRANGESTORE", "d", key, "-", "+", "BYLEX", "LIMIT", word, "1")
			}
		}
	}
}
