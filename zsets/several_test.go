package zsets

import (
	"fmt"
	"slices"
	"strings"
	"testing"

	"cistern/api"
)

// withSeveral is a trial with the sorted sets a (1 1, 2 2, 3 3, 10 10), b (2 20, 3 -3, x 0, 10 1, y 5), c (10 7, 3 7, z 7), apart (q 1, r 2) and the set s (2, 10, w).
func withSeveral(t testing.TB, limits api.Thresholds) *trial {
	t.Helper()
	p := newTrial(t, limits)
	p.want("ZADD a 1 1 2 2 3 3 10 10", ":4")
	p.want("ZADD b 20 2 -3 3 0 x 1 10 5 y", ":5")
	p.want("ZADD c 7 10 7 3 7 z", ":3")
	p.want("ZADD apart 1 q 2 r", ":2")
	p.giveSet(0, "s", "2", "10", "w")
	return p
}

// bare are the members of a line of members and scores, as they are told.
func bare(turns string) string {
	var all []string
	for i, word := range strings.Fields(turns) {
		if i%2 == 0 {
			all = append(all, "$"+word)
		}
	}
	return "[" + strings.Join(all, " ") + "]"
}

// scoredLine are the members and scores of a line, as they are told.
func scoredLine(turns string) string {
	words := strings.Fields(turns)
	for i := range words {
		words[i] = "$" + words[i]
	}
	return "[" + strings.Join(words, " ") + "]"
}

// TestP181Several: of one key, of several, of the same key twice, of keys that are not there, of sets; with weights and aggregates; told and stored.
func TestP181Several(t *testing.T) {
	for _, limits := range allLimits() {
		for _, c := range []struct{ line, want string }{
			{"ZUNION 1 a", "1 1 2 2 3 3 10 10"}, {"ZUNION 2 a b", "3 0 x 0 1 1 y 5 10 11 2 22"}, {"ZUNION 2 b a", "3 0 x 0 1 1 y 5 10 11 2 22"}, {"ZUNION 4 a b c apart", "x 0 1 1 q 1 r 2 y 5 3 7 z 7 10 18 2 22"}, {"ZUNION 2 a a", "1 2 2 4 3 6 10 20"}, {"ZUNION 3 a a a", "1 3 2 6 3 9 10 30"}, {"ZUNION 3 a c a", "1 2 2 4 z 7 3 13 10 27"}, {"ZUNION 2 a none", "1 1 2 2 3 3 10 10"}, {"ZUNION 3 none a none", "1 1 2 2 3 3 10 10"}, {"ZUNION 1 none", ""}, {"ZUNION 2 none none", ""}, {"ZUNION 1 s", "10 1 2 1 w 1"}, {"ZUNION 2 s a", "1 1 w 1 2 3 3 3 10 11"}, {"ZUNION 2 s s", "10 2 2 2 w 2"},
			{"ZINTER 1 a", "1 1 2 2 3 3 10 10"}, {"ZINTER 2 a b", "3 0 10 11 2 22"}, {"ZINTER 2 b a", "3 0 10 11 2 22"}, {"ZINTER 3 a b c", "3 7 10 18"}, {"ZINTER 3 c b a", "3 7 10 18"}, {"ZINTER 2 a a", "1 2 2 4 3 6 10 20"}, {"ZINTER 4 a b a b", "3 0 10 22 2 44"}, {"ZINTER 2 a none", ""}, {"ZINTER 2 none a", ""}, {"ZINTER 1 none", ""}, {"ZINTER 2 none none", ""}, {"ZINTER 2 a apart", ""}, {"ZINTER 4 a b c apart", ""}, {"ZINTER 2 a s", "2 3 10 11"}, {"ZINTER 3 s b a", "10 12 2 23"}, {"ZINTER 1 s", "10 1 2 1 w 1"},
			{"ZDIFF 1 a", "1 1 2 2 3 3 10 10"}, {"ZDIFF 2 a b", "1 1"}, {"ZDIFF 2 b a", "x 0 y 5"}, {"ZDIFF 3 b a c", "x 0 y 5"}, {"ZDIFF 3 c a b", "z 7"}, {"ZDIFF 2 b c", "x 0 y 5 2 20"}, {"ZDIFF 2 a a", ""}, {"ZDIFF 3 a b a", ""}, {"ZDIFF 3 a b b", "1 1"}, {"ZDIFF 2 a none", "1 1 2 2 3 3 10 10"}, {"ZDIFF 2 none a", ""}, {"ZDIFF 1 none", ""}, {"ZDIFF 2 none none", ""}, {"ZDIFF 3 a apart none", "1 1 2 2 3 3 10 10"}, {"ZDIFF 2 a s", "1 1 3 3"}, {"ZDIFF 2 s a", "w 1"}, {"ZDIFF 1 s", "10 1 2 1 w 1"},
			{"ZUNION 2 a b WEIGHTS 1 1", "3 0 x 0 1 1 y 5 10 11 2 22"}, {"ZUNION 2 a b WEIGHTS 2 -1", "2 -16 y -5 x 0 1 2 3 9 10 19"}, {"ZUNION 2 a b WEIGHTS 0 0", "1 0 10 0 2 0 3 0 x 0 y 0"}, {"ZUNION 2 a a WEIGHTS 1 2", "1 3 2 6 3 9 10 30"}, {"ZUNION 2 a a WEIGHTS 5 -5", "1 0 10 0 2 0 3 0"}, {"ZUNION 3 a a a WEIGHTS 2 2 -1", "1 3 2 6 3 9 10 30"}, {"ZUNION 1 a WEIGHTS -1", "10 -10 3 -3 2 -2 1 -1"}, {"ZUNION 2 s a WEIGHTS 100 1", "1 1 3 3 w 100 2 102 10 110"}, {"ZUNION 2 none a WEIGHTS 7 2", "1 2 2 4 3 6 10 20"},
			{"ZUNION 2 a b AGGREGATE SUM", "3 0 x 0 1 1 y 5 10 11 2 22"}, {"ZUNION 2 a b AGGREGATE MIN", "3 -3 x 0 1 1 10 1 2 2 y 5"}, {"ZUNION 2 a b AGGREGATE MAX", "x 0 1 1 3 3 y 5 10 10 2 20"}, {"ZUNION 2 b a AGGREGATE MIN", "3 -3 x 0 1 1 10 1 2 2 y 5"}, {"ZUNION 2 b a AGGREGATE MAX", "x 0 1 1 3 3 y 5 10 10 2 20"}, {"ZUNION 2 a a AGGREGATE MAX", "1 1 2 2 3 3 10 10"}, {"ZUNION 2 a s AGGREGATE MIN", "1 1 10 1 2 1 w 1 3 3"},
			{"ZUNION 2 a b WEIGHTS -1 2 AGGREGATE MAX", "3 -3 1 -1 x 0 10 2 y 10 2 40"}, {"ZUNION 2 a b AGGREGATE MIN WEIGHTS -1 2", "10 -10 3 -6 2 -2 1 -1 x 0 y 10"}, {"ZUNION 3 a b c AGGREGATE MIN", "3 -3 x 0 1 1 10 1 2 2 y 5 z 7"}, {"ZUNION 3 a a a WEIGHTS 1 3 2 AGGREGATE MAX", "1 3 2 6 3 9 10 30"}, {"ZUNION 3 a a a WEIGHTS 1 3 2 AGGREGATE MIN", "1 1 2 2 3 3 10 10"}, {"ZUNION 3 a a a WEIGHTS -1 3 -2 AGGREGATE MIN", "10 -20 3 -6 2 -4 1 -2"},
			{"ZINTER 2 a b WEIGHTS 10 1", "3 27 2 40 10 101"}, {"ZINTER 2 a b AGGREGATE MIN", "3 -3 10 1 2 2"}, {"ZINTER 2 a b AGGREGATE MAX", "3 3 10 10 2 20"}, {"ZINTER 2 a b AGGREGATE MAX WEIGHTS 1 -1", "2 2 3 3 10 10"}, {"ZINTER 3 a b c WEIGHTS 1 2 3 AGGREGATE SUM", "3 18 10 33"}, {"ZINTER 2 a s WEIGHTS 1 0", "2 2 10 10"},
			{"ZUNION 2 a b AGGREGATE MIN AGGREGATE MAX", "x 0 1 1 3 3 y 5 10 10 2 20"}, {"ZUNION 2 a b WEIGHTS 9 9 WEIGHTS 2 -1", "2 -16 y -5 x 0 1 2 3 9 10 19"}, {"ZUNION 2 a b aggregate min Weights 9 9 AGGREGATE sum weights 1 1", "3 0 x 0 1 1 y 5 10 11 2 22"},
		} {
			p := withSeveral(t, limits)
			p.keeps(bare(c.want), split(c.line)...)
			p.keeps(scoredLine(c.want), split(c.line+" WITHSCORES")...)
			words := split(c.line)
			head := int(words[1][0] - '0') // keys
			early := slices.Concat(words[:2+head], []string{"withScores"}, words[2+head:])
			p.keeps(scoredLine(c.want), append(early, "WITHSCORES")...)
			name, rest, _ := strings.Cut(c.line, " ")
			p.want(name+"STORE d "+rest, fmt.Sprint(":", len(strings.Fields(c.want))/2))
			p.holds("d", c.want)
			if c.want == "" {
				p.due("d", 0)
			}
			if name == "ZINTER" {
				keys := strings.Join(words[1:2+head], " ")
				p.keeps(fmt.Sprint(":", len(strings.Fields(c.want))/2), split("ZINTERCARD "+keys)...)
			}
		}
	}
}

// TestP181SeveralRange: products and sums that are no scores, also on the way to one that is; only of the members that are told.
func TestP181SeveralRange(t *testing.T) {
	for _, limits := range allLimits() {
		p := newTrial(t, limits)
		p.ask("ZADD", "top", most, "m", "1", "one")
		p.ask("ZADD", "low", "-"+most, "m", "1", "other")
		p.ask("ZADD", "half", "4503599627370496", "m") // twice this is one more than the greatest
		p.ask("ZADD", "almost", "4503599627370495", "m")
		p.ask("ZADD", "unit", "1", "m")
		p.ask("ZADD", "third", "3002399751580330", "m") // three times this is just below the greatest
		p.giveSet(0, "s", "m")
		for _, c := range []struct{ line, want string }{
			{"1 top", "one 1 m " + most}, {"2 top low", "m 0 one 1 other 1"}, {"1 half WEIGHTS 2", ""}, {"2 half half", ""}, {"2 almost almost", "m 9007199254740990"}, {"3 almost almost unit", "m " + most}, {"4 almost almost unit unit", ""}, {"2 almost unit WEIGHTS 2 1", "m " + most}, {"2 top unit", ""}, {"2 unit top", ""}, {"2 low unit WEIGHTS 1 -1", ""}, {"2 top unit WEIGHTS 1 -1", "one 1 m 9007199254740990"}, {"2 top unit WEIGHTS 1 0", "one 1 m " + most},
			{"3 top unit low", ""}, {"3 top low unit", "m 1 one 1 other 1"}, {"3 low top unit", "m 1 one 1 other 1"}, {"3 top top low", ""}, {"3 low low top", ""}, {"3 top low top", "other 1 one 2 m " + most}, {"3 low top top", "other 1 one 2 m " + most}, {"4 low low top top", ""}, {"3 half half low", ""}, {"3 half low half", "m 1 other 1"},
			{"1 top WEIGHTS 2", ""}, {"1 top WEIGHTS -1", "m -" + most + " one -1"}, {"1 top WEIGHTS -2", ""}, {"1 top WEIGHTS " + most, ""}, {"1 low WEIGHTS -" + most, ""}, {"1 unit WEIGHTS " + most, "m " + most}, {"1 unit WEIGHTS -" + most, "m -" + most}, {"1 top WEIGHTS 0", "m 0 one 0"}, {"1 half WEIGHTS 2048", ""}, {"1 half WEIGHTS 4096", ""}, {"1 half WEIGHTS 4503599627370496", ""}, {"1 half WEIGHTS -4503599627370496", ""}, {"2 top top WEIGHTS 2 -2", ""}, {"2 top top WEIGHTS 1 -1", "m 0 one 0"}, {"2 top unit WEIGHTS 2 " + most + " AGGREGATE MIN", ""}, {"2 unit top WEIGHTS 1 2 AGGREGATE MAX", ""}, {"2 unit top AGGREGATE MAX", "one 1 m " + most}, {"2 low unit AGGREGATE MIN", "m -" + most + " other 1"},
			{"3 third third third", "m 9007199254740990"}, {"4 third third third unit", "m " + most}, {"5 third third third unit unit", ""}, {"4 third third third third", ""}, {"4 unit third third third", "m " + most}, {"5 low third third third third", "other 1 m 3002399751580329"}, {"7 low third third third third third third", "other 1 m 9007199254740989"}, {"8 low third third third third third third third", ""},
			{"2 s top", ""}, {"2 s top WEIGHTS -1 1", "one 1 m 9007199254740990"}, {"1 s WEIGHTS " + most, "m " + most}, {"2 s s WEIGHTS " + most + " 1", ""},
		} {
			if c.want == "" {
				p.refuses("ZUNION "+c.line, outOfRange)
				p.refuses("ZUNION "+c.line+" WITHSCORES", outOfRange)
				p.refuses("ZUNIONSTORE d "+c.line, outOfRange)
				p.refuses("ZUNIONSTORE top "+c.line, outOfRange)
				p.refuses("ZINTER "+c.line, outOfRange)
				p.refuses("ZINTERSTORE low "+c.line, outOfRange)
				continue
			}
			p.keeps(scoredLine(c.want), split("ZUNION "+c.line+" WITHSCORES")...)
			p.want("ZUNIONSTORE d "+c.line, fmt.Sprint(":", len(strings.Fields(c.want))/2))
			p.holds("d", c.want)
			p.want("ZREM d m one other", fmt.Sprint(":", len(strings.Fields(c.want))/2))
		}
		// Of members that are not told no score is reckoned.
		p.want("ZADD apart 1 x", ":1")
		p.want("ZINTER 2 top apart WEIGHTS 2 1", "[]")
		p.want("ZINTER 2 half apart WEIGHTS "+most+" "+most, "[]")
		p.want("ZADD apart 1 one", ":1")
		p.want("ZINTER 2 top apart WEIGHTS 2 1 WITHSCORES", "[$one $3]")
		p.want("ZINTERSTORE d 2 top apart WEIGHTS 2 1", ":1")
		p.refuses("ZUNION 2 top apart WEIGHTS 2 1", outOfRange)
		p.want("ZDIFF 2 top low", "[$one]")
		p.want("ZINTERCARD 2 top unit", ":1")
		p.want("ZDIFF 2 top apart WITHSCORES", "[$m $"+most+"]")
	}
}

// TestP181SeveralErrors: numbers of keys, words behind them, the first word that can't be.
func TestP181SeveralErrors(t *testing.T) {
	p := withSeveral(t, someLimits())
	p.give(0, "text", api.KindString)
	for _, c := range []struct{ line, want string }{
		{"2 a", manyKeys}, {"3 a b", manyKeys}, {greatest + " a", manyKeys}, {"4 a WEIGHTS 1", manyKeys}, {"3 text WITHSCORES", manyKeys},
		{"1 a b", syntax}, {"1 a BOGUS", syntax}, {"1 a ''", syntax}, {"1 a 1", syntax}, {"2 a b c", syntax}, {"1 a LIMIT 1", syntax}, {"1 text BOGUS", syntax}, {"1 a WITHSCORE", syntax}, {"1 a REV", syntax},
		{"1 a WEIGHTS", syntax}, {"2 a b WEIGHTS", syntax}, {"2 a b WEIGHTS 1", syntax}, {"1 a WEIGHTS 1 2", syntax}, {"2 a b WEIGHTS 1 2 3", syntax}, {"1 a WEIGHTS 1 WEIGHTS", syntax}, {"1 text WEIGHTS", syntax}, {"1 a AGGREGATE", syntax}, {"1 a AGGREGATE AVG", syntax}, {"1 a AGGREGATE ''", syntax}, {"1 a AGGREGATE SUMS", syntax}, {"1 a AGGREGATE SUM MIN", syntax}, {"1 a AGGREGATE WEIGHTS 1", syntax}, {"1 a AGGREGATE SUM AGGREGATE", syntax}, {"1 text AGGREGATE x", syntax}, {"1 a WEIGHTS 1 BOGUS", syntax}, {"1 a WEIGHTS 1 AGGREGATE", syntax},
		{"1 a WEIGHTS x", noWeight}, {"2 a b WEIGHTS x", noWeight}, {"2 a b WEIGHTS 1 x", noWeight}, {"2 a b WEIGHTS x 1", noWeight}, {"2 a b WEIGHTS x y", noWeight}, {"2 a b WEIGHTS 1 AGGREGATE SUM", noWeight}, {"2 a b WEIGHTS AGGREGATE", noWeight}, {"1 a WEIGHTS WITHSCORES", noWeight}, {"1 a WEIGHTS WEIGHTS 1", noWeight}, {"1 text WEIGHTS x", noWeight}, {"1 a WEIGHTS 1.5", noWeight}, {"1 a WEIGHTS 9007199254740992", noWeight}, {"1 a WEIGHTS -9007199254740992", noWeight}, {"1 a WEIGHTS ''", noWeight}, {"1 a WEIGHTS inf", noWeight}, {"1 a WEIGHTS 01", noWeight},
		{"1 a WEIGHTS x BOGUS", noWeight}, {"1 a BOGUS WEIGHTS x", syntax}, {"1 a AGGREGATE x WEIGHTS x", syntax}, {"1 a WEIGHTS x AGGREGATE x", noWeight}, {"1 a WEIGHTS 1 WEIGHTS x", noWeight}, {"1 a WEIGHTS x WEIGHTS 1", noWeight}, {"3 a b c WEIGHTS 1 x", noWeight}, {"3 a b c WEIGHTS 1 2", syntax},
		{"1 text", wrongType}, {"2 a text WEIGHTS 1 2 AGGREGATE MAX", wrongType}, {"3 none none text", wrongType}, {"2 text none", wrongType},
	} {
		for _, name := range []string{"ZUNION", "ZINTER", "ZUNIONSTORE d", "ZINTERSTORE a", "ZUNIONSTORE none"} {
			p.refuses(name+" "+c.line, c.want)
		}
	}
	for _, line := range []string{"1 a WEIGHTS 1", "1 a WEIGHTS x", "1 a AGGREGATE SUM", "1 text WEIGHTS 1", "1 a BOGUS", "1 a b", "1 a WITHSCORES BOGUS", "1 a WITHSCORES WEIGHTS 1", "1 a LIMIT 1", "1 a ''", "2 a b WEIGHTS 1 1"} {
		p.refuses("ZDIFF "+line, syntax)
		p.refuses("ZDIFFSTORE d "+line, syntax)
	}
	for _, line := range []string{"1 a WITHSCORES", "1 a WEIGHTS 1 WITHSCORES", "1 a WITHSCORES WEIGHTS x", "1 text WITHSCORES", "1 a AGGREGATE SUM withscores"} {
		p.refuses("ZUNIONSTORE d "+line, syntax)
		p.refuses("ZINTERSTORE d "+line, syntax)
		p.refuses("ZDIFFSTORE d "+line, syntax)
	}
	p.refuses("ZUNIONSTORE d 1 a WEIGHTS x WITHSCORES", noWeight)
	p.refuses("ZUNION 1 a WITHSCORES WEIGHTS x", noWeight)
	for _, word := range append(noNumbers(), "0", "-1", least) {
		for _, name := range []string{"ZUNION", "ZINTER", "ZDIFF", "ZINTERCARD"} {
			p.refusesWords(noKeys, name, word, "a")
			p.refusesWords(noKeys, name, word, "text", "BOGUS")
		}
		for _, name := range []string{"ZUNIONSTORE", "ZINTERSTORE", "ZDIFFSTORE"} {
			p.refusesWords(noKeys, name, "d", word, "a")
			p.refusesWords(noKeys, name, "a", word, "text", "BOGUS")
		}
	}
	for _, name := range []string{"ZDIFF", "ZDIFFSTORE d"} {
		p.refuses(name+" 2 a", manyKeys)
		p.refuses(name+" 3 text BOGUS", manyKeys)
		p.refuses(name+" 2 none text", wrongType)
	}
	p.want("ZUNION 1 WEIGHTS", "[]") // keys by these names
	p.want("ZUNION 2 WITHSCORES AGGREGATE WITHSCORES", "[]")
	p.want("ZINTER 3 a WEIGHTS 1", "[]")
	p.want("ZDIFF 2 a WITHSCORES", "[$1 $2 $3 $10]")
}

// TestP181SeveralKinds: one key that is neither a sorted set nor a set, wherever it stands; a set anywhere is none of these.
func TestP181SeveralKinds(t *testing.T) {
	for _, kind := range strange() {
		p := withZsets(t)
		p.give(0, "w", kind)
		for _, keys := range []string{"w", "w z", "z w", "z y w", "none w", "none none w", "z z w", "w w", "s w", "w s", "one y w", "z w none"} {
			n := len(split(keys))
			for _, name := range []string{"ZINTER", "ZUNION", "ZDIFF", "ZINTERCARD", "ZINTERSTORE d", "ZUNIONSTORE z", "ZDIFFSTORE w", "ZINTERSTORE none"} {
				p.refuses(fmt.Sprintf("%s %d %s", name, n, keys), wrongType)
			}
			p.refuses(fmt.Sprintf("ZINTERCARD %d %s LIMIT 1", n, keys), wrongType)
			p.refuses(fmt.Sprintf("ZUNION %d %s WITHSCORES AGGREGATE MIN", n, keys), wrongType)
		}
	}
	for _, limits := range allLimits() {
		p := newTrial(t, limits)
		p.giveSet(0, "ints", "1", "2", "3")
		p.giveSet(0, "words", "1", "x", "3")
		p.giveSet(0, "many", strings.Fields("1 2 3 4 5 6 7 8 9 10 x y")...)
		p.want("ZADD z 5 1 6 x", ":2")
		p.want("ZUNION 3 ints words many WITHSCORES", "[$10 $1 $4 $1 $5 $1 $6 $1 $7 $1 $8 $1 $9 $1 $y $1 $2 $2 $x $2 $1 $3 $3 $3]")
		p.want("ZINTER 3 ints words many WITHSCORES", "[$1 $3 $3 $3]")
		p.want("ZINTER 3 many words z WITHSCORES", "[$1 $7 $x $8]")
		p.want("ZDIFF 2 many words", "[$10 $2 $4 $5 $6 $7 $8 $9 $y]")
		p.want("ZDIFF 2 z ints WITHSCORES", "[$x $6]")
		p.want("ZINTERCARD 2 ints words", ":2")
		p.want("ZUNIONSTORE ints 2 ints z WEIGHTS 2 1", ":4") // a set goes for a sorted set
		p.holds("ints", "2 2 3 2 x 6 1 7")
	}
}

// TestP181Store: dest of all kinds: it goes, if there are no members, else it is made anew, without an expiry; dest may be one of the keys.
func TestP181Store(t *testing.T) {
	const z, y = "a 1 b 2 c 2", "c -1 b 5 d 9"
	for _, c := range []struct{ line, want, members string }{
		{"ZINTERSTORE d 2 z y", ":2", "c 1 b 7"}, {"ZUNIONSTORE d 2 z y", ":4", "a 1 c 1 b 7 d 9"}, {"ZDIFFSTORE d 2 z y", ":1", "a 1"}, {"ZINTERSTORE d 2 z one", ":0", ""}, {"ZUNIONSTORE d 1 none", ":0", ""}, {"ZDIFFSTORE d 2 z z", ":0", ""}, {"ZUNIONSTORE d 1 one", ":1", "e 5"}, {"ZUNIONSTORE d 1 s", ":3", "a 1 b 1 x 1"}, {"ZDIFFSTORE d 2 s z", ":1", "x 1"},
	} {
		for _, kind := range append(slices.Clone(kinds), api.KindNone) {
			p := withZsets(t)
			if kind != api.KindNone {
				p.give(0, "d", kind)
				p.expire(0, "d", 5000)
			}
			mark := p.sp.Mark(0, "d")
			p.want(c.line, c.want)
			p.holds("d", c.members)
			p.holds("z", z)
			p.holds("y", y)
			if c.members == "" {
				p.due("d", 0)
				continue
			}
			p.due("d", -1)
			if p.sp.Mark(0, "d") == mark {
				t.Errorf("%s: the mark of d is as it was", c.line)
			}
		}
	}
	for _, c := range []struct{ line, want, members string }{
		{"ZINTERSTORE z 2 z y", ":2", "c 1 b 7"}, {"ZINTERSTORE z 2 y z", ":2", "c 1 b 7"}, {"ZUNIONSTORE z 2 z y", ":4", "a 1 c 1 b 7 d 9"}, {"ZUNIONSTORE z 3 y z one", ":5", "a 1 c 1 e 5 b 7 d 9"}, {"ZUNIONSTORE z 2 z z", ":3", "a 2 b 4 c 4"}, {"ZDIFFSTORE z 2 z y", ":1", "a 1"}, {"ZDIFFSTORE z 2 y z", ":1", "d 9"}, {"ZUNIONSTORE z 1 z", ":3", z}, {"ZINTERSTORE z 1 z WEIGHTS 3", ":3", "a 3 b 6 c 6"}, {"ZDIFFSTORE z 1 z", ":3", z}, {"ZINTERSTORE z 2 z one", ":0", ""}, {"ZDIFFSTORE z 2 z z", ":0", ""}, {"ZINTERSTORE z 2 z none", ":0", ""},
	} {
		p := withZsets(t)
		p.expire(0, "z", 5000)
		p.want(c.line, c.want)
		p.holds("z", c.members)
		p.holds("y", y)
		if c.members != "" {
			p.due("z", -1)
		}
	}
	p := withZsets(t)
	key := strings.Repeat("k", api.MaxKey+1)
	for _, name := range []string{"ZINTERSTORE", "ZUNIONSTORE", "ZDIFFSTORE"} {
		p.refusesWords(tooLarge, name, key, "1", "z")
		p.keeps(":0", name, key, "1", "none")
		p.wantWords(":3", name, key[1:], "1", "z")
	}
}

// TestStoreKept: what is stored has the encoding to which its members come with the space's thresholds of now.
func TestStoreKept(t *testing.T) {
	p := begun(t)
	p.want("ZADD n 5 a 1 b 3 c", ":3")
	p.want("ZADD large 1 a 2 b 3 c 4 d 5 e 6 f", ":6")
	p.want("ZADD long 1 nine....9 2 b", ":2")
	for _, c := range []struct{ line, want string }{
		{"ZUNIONSTORE d 1 n", "listpack"}, {"ZINTERSTORE d 2 large n", "listpack"}, {"ZDIFFSTORE d 2 large n", "listpack"}, {"ZUNIONSTORE d 2 large n", "skiplist"}, {"ZRANGESTORE d large 0 3", "listpack"}, {"ZRANGESTORE d large 0 4", "skiplist"}, {"ZRANGESTORE d large 0 4 REV", "skiplist"}, {"ZUNIONSTORE d 1 long", "skiplist"}, {"ZRANGESTORE d long 1 1", "listpack"}, {"ZRANGESTORE d long 0 0", "skiplist"}, {"ZUNIONSTORE large 1 n", "listpack"},
	} {
		p.ask(split(c.line)...)
		p.encoding(split(c.line)[1], c.want)
	}
	c := p.sp.Config()
	c.Limits.ZsetEntries, c.Limits.ZsetBytes = 2, 9
	p.sp.Adjust(c)
	p.m.limits = c.Limits
	p.want("ZUNIONSTORE d 1 n", ":3")
	p.encoding("d", "skiplist")
	p.want("ZRANGESTORE d long 0 -1", ":2")
	p.encoding("d", "listpack")
	p.encoding("n", "listpack")
}

// TestP181Card: the number of keys, the words behind them, the limit.
func TestP181Card(t *testing.T) {
	p := withSeveral(t, someLimits())
	for _, c := range []struct{ line, want string }{
		{"1 a", ":4"}, {"2 a b", ":3"}, {"3 a b c", ":2"}, {"2 a none", ":0"}, {"1 none", ":0"}, {"2 a a", ":4"}, {"2 a apart", ":0"}, {"2 a s", ":2"}, {"1 s", ":3"},
		{"2 a b LIMIT 0", ":3"}, {"2 a b LIMIT 1", ":1"}, {"2 a b limit 2", ":2"}, {"2 a b Limit 3", ":3"}, {"2 a b LIMIT 4", ":3"}, {"2 a b LIMIT " + greatest, ":3"}, {"2 a none LIMIT 1", ":0"}, {"1 none LIMIT 0", ":0"},
		{"1 LIMIT", ":0"}, {"2 a LIMIT", ":0"}, {"3 a LIMIT 1", ":0"}, {"1 LIMIT LIMIT 1", ":0"}, {"3 a b LIMIT LIMIT 1", ":0"},
		{"2 a", "-" + manyKeys}, {"3 a b", "-" + manyKeys}, {"4 a LIMIT 1", "-" + manyKeys}, {greatest + " a", "-" + manyKeys},
		{"1 a b", "-" + syntax}, {"1 a LIMIT", "-" + syntax}, {"1 a b LIMIT 1", "-" + syntax}, {"1 a LIMIT 1 more", "-" + syntax}, {"1 a LIMIT 1 LIMIT 1", "-" + syntax}, {"1 a LIMIT -1 more", "-" + syntax}, {"1 a LIMITS 1", "-" + syntax}, {"1 a 1 LIMIT", "-" + syntax}, {"1 a WEIGHTS 1", "-" + syntax}, {"1 a AGGREGATE SUM", "-" + syntax}, {"1 a WITHSCORES", "-" + syntax}, {"1 a '' 1", "-" + syntax},
		{"1 a LIMIT -1", "-" + below}, {"2 none none LIMIT " + least, "-" + below},
	} {
		p.keeps(c.want, split("ZINTERCARD "+c.line)...)
	}
	for _, word := range noNumbers() {
		p.refusesWords(syntax, "ZINTERCARD", "1", "a", "LIMIT", word)
	}
}

// TestSeveralMany: sorted sets and sets of all sizes in all encodings, so that members are sought one by one and in maps; keys that stand many times.
func TestSeveralMany(t *testing.T) {
	t.Parallel()
	m := mix(12)
	for range 60 {
		p := newTrial(t, pick(&m, allLimits()...))
		keys := []string{"none"}
		for i := range 1 + m.below(4) {
			key := fmt.Sprint("k", i)
			keys = append(keys, key)
			words := numbered("ZADD", key, "m", m.below(40), 1+m.below(pick(&m, 3, 20, 60)))
			if m.below(4) == 0 {
				p.giveSet(0, key, numberedNames("", "", "m", m.below(40), 1+m.below(60))[2:]...)
			} else {
				p.ask(words...)
			}
		}
		for range 10 {
			n := 1 + m.below(6)
			words := []string{pick(&m, "ZINTER", "ZUNION", "ZDIFF"), fmt.Sprint(n)}
			for range n {
				words = append(words, pick(&m, keys[m.below(2):]...))
			}
			if words[0] != "ZDIFF" && m.below(2) == 0 {
				words = append(words, "WEIGHTS")
				for range n {
					words = append(words, fmt.Sprint(m.below(5)-2))
				}
			}
			if words[0] != "ZDIFF" {
				words = append(words, "AGGREGATE", pick(&m, "SUM", "MIN", "MAX"))
			}
			p.ask(append(slices.Clone(words), "WITHSCORES")...)
			words[0] += "STORE"
			p.ask(slices.Insert(words, 1, "d")...)
		}
	}
	p := withSeveral(t, someLimits())
	inTurn, inRow := slices.Repeat([]string{"a", "b"}, 25000), slices.Repeat([]string{"a"}, 50000)
	p.wantWords("[$3 $0 $10 $275000 $2 $550000]", slices.Concat([]string{"ZINTER", "50000"}, inTurn, []string{"WITHSCORES"})...)
	p.wantWords("[$3 $x $1 $y $10 $2]", append([]string{"ZUNION", "50000"}, inTurn...)...)
	p.wantWords("[$1 $50000 $2 $100000 $3 $150000 $10 $500000]", slices.Concat([]string{"ZUNION", "50000"}, inRow, []string{"WITHSCORES"})...)
	p.wantWords("[$1 $2 $3 $10]", slices.Concat([]string{"ZINTER", "50000"}, inRow, []string{"AGGREGATE", "MIN"})...)
	p.wantWords("[]", append([]string{"ZDIFF", "50000"}, inTurn...)...)
	p.wantWords("[$z]", append([]string{"ZDIFF", "50001", "c"}, inTurn...)...)
	p.wantWords(":3", append([]string{"ZINTERCARD", "50000"}, inTurn...)...)
}
