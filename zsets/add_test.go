package zsets

import (
	"fmt"
	"slices"
	"strings"
	"testing"

	"cistern/api"
	"cistern/keyspace"
)

const (
	least    = "-9223372036854775808"
	greatest = "9223372036854775807"
	most     = "9007199254740991" // the greatest score
)

// noNumbers are words that are no numbers' texts.
func noNumbers() []string {
	return []string{"", "x", " 1", "1 ", "+1", "01", "-0", "1.0", "1e3", "0x1", "9223372036854775808", "-9223372036854775809", "\x001", "one"}
}

// numbered are so many pairs behind a name and a key: members from a number on, each with its number as score.
func numbered(name, key, member string, from, n int) []string {
	words := make([]string, 0, 2*n+2)
	words = append(words, name, key)
	for i := range n {
		words = append(words, fmt.Sprint(from+i), fmt.Sprint(member, from+i))
	}
	return words
}

// numberedNames are numbered's words without the scores.
func numberedNames(name, key, member string, from, n int) []string {
	words := make([]string, 0, n+2)
	words = append(words, name, key)
	for i := range n {
		words = append(words, fmt.Sprint(member, from+i))
	}
	return words
}

// noScoreWords are words that are no scores.
func noScoreWords() []string {
	return append(noNumbers(), "9007199254740992", "-9007199254740992", "1.5", "-1.5", "inf", "+inf", "-inf", "(1", greatest, least, "nan")
}

// TestP181Add: ZADD of one pair and of many, members that are there and that are not, the same one twice, into a sorted set that is made and one that is there.
func TestP181Add(t *testing.T) {
	for _, limits := range allLimits() {
		p := newTrial(t, limits)
		for _, c := range []struct{ line, want, members string }{
			{"k 2 b", ":1", "b 2"}, {"k 1 a 3 c", ":2", "a 1 b 2 c 3"}, {"k 1 a", ":0", "a 1 b 2 c 3"}, {"k 9 a 2 b", ":0", "b 2 c 3 a 9"}, {"k 4 d 5 d 6 d", ":1", "b 2 c 3 d 6 a 9"}, {"k 1 a 5 e 2 b 6 f 7 e", ":2", "a 1 b 2 c 3 d 6 f 6 e 7"},
			{"m 1 x 2 x 3 y 4 x", ":2", "y 3 x 4"}, {"m 4 X", ":1", "y 3 X 4 x 4"}, {"n 0 10 0 9 0 1", ":3", "1 0 10 0 9 0"}, {"n -1 01 -1 +1", ":2", "+1 -1 01 -1 1 0 10 0 9 0"}, {"l 1 NX 2 XX 3 INCR 4 CH", ":4", "NX 1 XX 2 INCR 3 CH 4"},
			{"e " + most + " t -" + most + " l 0 z", ":3", "l -" + most + " z 0 t " + most},
		} {
			p.want("ZADD "+c.line, c.want)
			p.holds(split(c.line)[0], c.members)
		}
		p.wantWords(":2", "ZADD", "bytes", "1", "\x00\xff\r\n", "1", "")
		p.wantWords("[$ $\x00\xff\r\n]", "ZRANGE", "bytes", "0", "-1")
		p.wantWords(":1", "ZADD", "", "1", "under the empty key")
		p.want("ZRANGE '' 0 -1", "[$under the empty key]")
	}
}

// TestP181AddOptions: each option alone and with each other, in both orders, of members that are there with a lesser, an equal and a greater score, and of one that is not there.
func TestP181AddOptions(t *testing.T) {
	// z is a 1, b 2, c 2; the pairs are b with 1, 2 and 3, and x with 7.
	type outcome struct{ want, members string }
	const as = "a 1 b 2 c 2"
	lower, equal, higher, fresh := outcome{":0", "a 1 b 1 c 2"}, outcome{":0", as}, outcome{":0", "a 1 c 2 b 3"}, outcome{":1", as + " x 7"}
	none := outcome{":0", as}
	changed := func(o outcome) outcome { return outcome{":1", o.members} }
	wrong, apart := outcome{"-" + newAndOld, as}, outcome{"-" + notTogether, as}
	for options, want := range map[string][4]outcome{
		"":   {lower, equal, higher, fresh},
		"NX": {none, none, none, fresh}, "XX": {lower, equal, higher, none}, "GT": {none, none, higher, fresh}, "LT": {lower, none, none, fresh},
		"CH": {changed(lower), equal, changed(higher), fresh}, "INCR": {{"$3", "a 1 c 2 b 3"}, {"$4", "a 1 c 2 b 4"}, {"$5", "a 1 c 2 b 5"}, {"$7", as + " x 7"}},
		"NX XX": {wrong, wrong, wrong, wrong}, "NX GT": {apart, apart, apart, apart}, "NX LT": {apart, apart, apart, apart}, "NX CH": {none, none, none, fresh}, "NX INCR": {{"_", as}, {"_", as}, {"_", as}, {"$7", as + " x 7"}},
		"XX GT": {none, none, higher, none}, "XX LT": {lower, none, none, none}, "XX CH": {changed(lower), equal, changed(higher), none}, "XX INCR": {{"$3", "a 1 c 2 b 3"}, {"$4", "a 1 c 2 b 4"}, {"$5", "a 1 c 2 b 5"}, {"_", as}},
		"GT LT": {apart, apart, apart, apart}, "GT CH": {none, none, changed(higher), fresh}, "GT INCR": {{"$3", "a 1 c 2 b 3"}, {"$4", "a 1 c 2 b 4"}, {"$5", "a 1 c 2 b 5"}, {"$7", as + " x 7"}},
		"LT CH": {changed(lower), none, none, fresh}, "LT INCR": {{"_", as}, {"_", as}, {"_", as}, {"$7", as + " x 7"}}, "CH INCR": {{"$3", "a 1 c 2 b 3"}, {"$4", "a 1 c 2 b 4"}, {"$5", "a 1 c 2 b 5"}, {"$7", as + " x 7"}},
		"NX NX": {none, none, none, fresh}, "XX CH GT": {none, none, changed(higher), none}, "NX XX GT LT": {wrong, wrong, wrong, wrong}, "NX XX INCR": {wrong, wrong, wrong, wrong}, "CH CH LT XX": {changed(lower), none, none, none}, "INCR CH XX GT": {{"$3", "a 1 c 2 b 3"}, {"$4", "a 1 c 2 b 4"}, {"$5", "a 1 c 2 b 5"}, {"_", as}},
	} {
		words := strings.Fields(options)
		turned := slices.Clone(words)
		slices.Reverse(turned)
		for _, list := range [][]string{words, turned} {
			for i, pair := range []string{"1 b", "2 b", "3 b", "7 x"} {
				for _, spelt := range []func(string) string{strings.ToUpper, strings.ToLower, mixed} {
					p := withZsets(t)
					args := []string{"ZADD", "z"}
					for _, word := range list {
						args = append(args, spelt(word))
					}
					p.wantWords(want[i].want, append(args, strings.Fields(pair)...)...)
					p.holds("z", want[i].members)
				}
			}
		}
	}
}

// TestP181AddCounts: several pairs with options: each is weighed where those ahead of it are done.
func TestP181AddCounts(t *testing.T) {
	for _, limits := range allLimits() {
		for _, c := range []struct{ line, want, members string }{
			{"1 a 2 a", ":0", "a 2 b 2"}, {"CH 3 a 1 a", ":2", "a 1 b 2"}, {"CH 3 a 3 a", ":1", "b 2 a 3"}, {"CH 1 a 1 a", ":0", "a 1 b 2"}, {"CH 5 x 6 x 6 x 7 x", ":3", "a 1 b 2 x 7"}, {"5 x 6 x", ":1", "a 1 b 2 x 6"},
			{"NX 5 x 6 x 7 a", ":1", "a 1 b 2 x 5"}, {"NX CH 5 x 6 x 7 y", ":2", "a 1 b 2 x 5 y 7"}, {"XX 5 x 6 x 7 a", ":0", "b 2 a 7"}, {"XX CH 5 x 6 b 7 a", ":2", "b 6 a 7"},
			{"GT 5 a 3 a 6 a", ":0", "b 2 a 6"}, {"GT CH 5 a 3 a 6 a", ":2", "b 2 a 6"}, {"GT CH 5 x 3 x 6 x", ":2", "a 1 b 2 x 6"}, {"LT CH 5 x 3 x 6 x", ":2", "a 1 b 2 x 3"}, {"LT CH 0 a 0 a -1 a 1 a", ":2", "a -1 b 2"}, {"LT 5 x 3 x 9 x 2 y", ":2", "a 1 b 2 y 2 x 3"}, {"XX GT CH 5 a 4 a 1 b 3 b 9 x", ":2", "b 3 a 5"},
			{"CH 2 a 1 b 1 a 2 b", ":4", "a 1 b 2"},
		} {
			p := newTrial(t, limits)
			p.want("ZADD z 1 a 2 b", ":2")
			p.expire(0, "z", 5000)
			p.want("ZADD z "+c.line, c.want)
			p.holds("z", c.members)
			p.due("z", 5000)
		}
		p := newTrial(t, limits)
		p.want("ZADD z GT CH 5 x 3 x 6 x", ":2") // made
		p.holds("z", "x 6")
		p.want("ZADD y NX 5 x 3 x", ":1")
		p.holds("y", "x 5")
	}
}

// TestP181AddMark: the space is told, if a member has come or got another score, also if it has its old one in the end; else it is not.
func TestP181AddMark(t *testing.T) {
	for line, told := range map[string]bool{
		"1 a": false, "2 b 1 a": false, "CH 1 a": false, "NX 9 a": false, "XX 9 x": false, "GT 1 a": false, "GT 0 a": false, "LT 1 a": false, "LT 2 a": false, "INCR 0 a": false, "XX INCR 5 x": false, "GT INCR 0 a": false, "GT INCR -1 a": false, "LT INCR 1 a": false, "NX INCR 5 a": false, "XX 1 a 9 x": false,
		"2 a": true, "9 x": true, "2 a 1 a": true, "CH 2 a 1 a": true, "1 a 9 x": true, "INCR 1 a": true, "INCR 0 x": true, "GT INCR 1 a": true, "GT 2 a": true, "LT 0 a": true, "XX 9 x 0 a": true,
	} {
		for _, limits := range allLimits() {
			p := newTrial(t, limits)
			p.want("ZADD z 1 a 2 b", ":2")
			p.expire(0, "z", 5000)
			mark := p.sp.Mark(0, "z")
			p.ask(split("ZADD z " + line)...)
			p.due("z", 5000)
			if (p.sp.Mark(0, "z") != mark) != told {
				t.Errorf("ZADD z %s: the mark %d has become %d", line, mark, p.sp.Mark(0, "z"))
			}
			if told {
				p.want("ZCARD z", fmt.Sprint(":", len(p.m.spaces[0]["z"].scores)))
			}
		}
	}
	p := withZsets(t)
	mark := p.sp.Mark(0, "z")
	p.want("ZINCRBY z 0 a", "$1")
	if p.sp.Mark(0, "z") != mark {
		t.Error("ZINCRBY z 0 a: the space is told")
	}
}

// TestP181AddPairs: no pair, half a pair, an option behind the first pair, whatever the key is.
func TestP181AddPairs(t *testing.T) {
	for _, kind := range kinds {
		p := withZsets(t)
		p.give(0, "w", kind)
		p.expire(0, "w", 7000)
		for _, key := range []string{"z", "none", "w"} {
			for _, words := range []string{"NX CH", "NX XX", "GT LT", "NX GT", "INCR CH", "NX XX GT LT CH INCR", "1 a 2", "NX 1", "1 a NX", "NX XX 1", "GT LT 1", "GT NX 1 a 2", "INCR 1 a 2", "x y 2", "1 a NX 2 b", "NX CH 1", "INCR 1 a 2 b 3"} {
				p.refuses("ZADD "+key+" "+words, syntax)
			}
			for _, words := range []string{"NX XX 1 a", "XX NX x a", "NX XX GT 1 a", "NX XX GT LT 1 a", "NX XX INCR 1 a 2 b", "NX XX x a", "xx Nx CH 1 a"} {
				p.refuses("ZADD "+key+" "+words, newAndOld)
			}
			for _, words := range []string{"GT LT 1 a", "LT GT x a", "NX GT 1 a", "GT NX 1 a", "NX LT 1 a", "LT NX x a", "NX GT LT 1 a", "XX GT LT 1 a", "GT LT INCR 1 a 2 b", "NX LT INCR x a x b", "gt CH lt 1 a"} {
				p.refuses("ZADD "+key+" "+words, notTogether)
			}
			for _, words := range []string{"INCR 1 a 2 b", "INCR 1 a 1 a", "NX INCR 1 a 2 b", "INCR x a 2 b", "INCR CH 1 a 2 b 3 c", "incr gt x a x b"} {
				p.refuses("ZADD "+key+" "+words, onlyOne)
			}
			for _, words := range []string{"1 a NX b", "CHX a", "NXX a", "x a", "1 a x b", "x a 1 b", "NX 1 a CH b", "INCR x a", "XX x a", "GT x a"} {
				p.refuses("ZADD "+key+" "+words, noScore)
			}
			for _, word := range noScoreWords() {
				p.refusesWords(noScore, "ZADD", key, word, "a")
				p.refusesWords(noScore, "ZADD", key, "1", "a", "2", "x", word, "b")
				p.refusesWords(noScore, "ZADD", key, "INCR", word, "a")
				p.refusesWords(noScore, "ZADD", key, "NX", "CH", word, "x", word, "y")
				p.refusesWords(noScore, "ZINCRBY", key, word, "a")
			}
		}
	}
}

// TestP181Increase: ZADD with INCR and ZINCRBY: sums at both ends of the scores and beyond; nothing has changed where a sum is no score.
func TestP181Increase(t *testing.T) {
	for _, limits := range allLimits() {
		for _, name := range []string{"ZINCRBY z", "ZADD z INCR"} {
			p := newTrial(t, limits)
			for _, c := range []struct{ line, want, members string }{
				{"5 a", "$5", "a 5"}, {"-7 a", "$-2", "a -2"}, {"2 a", "$0", "a 0"}, {"0 b", "$0", "a 0 b 0"}, {"0 b", "$0", "a 0 b 0"}, {most + " b", "$" + most, "a 0 b " + most}, {"-1 b", "$9007199254740990", "a 0 b 9007199254740990"}, {"1 b", "$" + most, "a 0 b " + most},
				{"-" + most + " a", "$-" + most, "a -" + most + " b " + most}, {"0 a", "$-" + most, "a -" + most + " b " + most}, {"1 a", "$-9007199254740990", "a -9007199254740990 b " + most}, {"-1 a", "$-" + most, "a -" + most + " b " + most}, {most + " a", "$0", "a 0 b " + most}, {"-" + most + " b", "$0", "a 0 b 0"}, {most + " c", "$" + most, "a 0 b 0 c " + most}, {"-" + most + " d", "$-" + most, "d -" + most + " a 0 b 0 c " + most}, {"3 ''", "$3", "d -" + most + " a 0 b 0  3 c " + most},
			} {
				p.want(name+" "+c.line, c.want)
				p.holds("z", c.members)
			}
			p.expire(0, "z", 5000)
			for _, line := range []string{"1 c", most + " c", "2 c", "-1 d", "-" + most + " d", "-2 d"} {
				p.refuses(name+" "+line, outOfRange)
				if strings.HasPrefix(name, "ZADD") {
					p.refuses(name+" GT "+line, outOfRange)
					p.refuses(name+" LT "+line, outOfRange)
					p.refuses(name+" XX CH "+line, outOfRange)
					p.keeps("_", split(name+" NX "+line)...) // no sum
				}
			}
			p.due("z", 5000)
			p.want(name+" 1 new", "$1")
			p.due("z", 5000)
			p.want("ZREM z d", ":1")
			p.want(name+" -3 d", "$-3")
		}
		p := newTrial(t, limits)
		p.want("ZINCRBY made 7 x", "$7")
		p.holds("made", "x 7")
		p.keeps("_", split("ZADD none XX INCR 7 x")...)
		p.holds("none", "")
		p.want("ZADD other NX INCR 7 x", "$7")
		p.want("ZADD more GT INCR -7 x", "$-7")
		p.want("ZADD less LT INCR 7 x", "$7")
		p.want("ZADD other GT INCR 1 x", "$8")
		p.keeps("_", split("ZADD other GT INCR -1 x")...)
		p.keeps("_", split("ZADD other GT INCR 0 x")...)
		p.keeps("_", split("ZADD other LT INCR 0 x")...)
		p.keeps("_", split("ZADD other LT INCR 1 x")...)
		p.want("ZADD other LT INCR -9 x", "$-1")
		p.keeps("$-1", split("ZADD other INCR 0 x")...)
	}
}

// TestP181AddNothing: a key that is not there, or is too long, is not made where nothing joins.
func TestP181AddNothing(t *testing.T) {
	p := withZsets(t)
	long, key := strings.Repeat("m", api.MaxElement+1), strings.Repeat("k", api.MaxKey+1)
	for _, name := range []string{"none", key} {
		p.keeps(":0", "ZADD", name, "XX", "1", "a", "2", "b")
		p.keeps(":0", "ZADD", name, "XX", "CH", "1", "a")
		p.keeps(":0", "ZADD", name, "XX", "GT", "1", "a")
		p.keeps("_", "ZADD", name, "XX", "INCR", "1", "a")
		p.keeps(":0", "ZADD", name, "XX", "1", long)
	}
	p.refusesWords(tooLarge, "ZADD", key, "1", "a")
	p.refusesWords(tooLarge, "ZINCRBY", key, "1", "a")
	p.wantWords(":1", "ZADD", key[1:], "1", "a")
}

// TestP181Long: members of as many bytes as there may be, and of one more; nothing has changed where only the last of several is too long.
func TestP181Long(t *testing.T) {
	longest, over := strings.Repeat("m", api.MaxElement), strings.Repeat("o", api.MaxElement+1)
	p := withZsets(t)
	p.expire(0, "z", 5000)
	for _, key := range []string{"z", "none"} {
		p.refusesWords(tooLarge, "ZADD", key, "1", over)
		p.refusesWords(tooLarge, "ZADD", key, "9", "a", "9", "x", "9", over)
		p.refusesWords(tooLarge, "ZADD", key, "9", over, "9", "x")
		p.refusesWords(tooLarge, "ZADD", key, "NX", "CH", "9", "x", "9", over)
		p.refusesWords(tooLarge, "ZADD", key, "GT", "9", over)
		p.refusesWords(tooLarge, "ZADD", key, "INCR", "9", over)
		p.refusesWords(tooLarge, "ZINCRBY", key, "9", over)
		p.keeps(":0", "ZADD", key, "XX", "9", over)
		p.keeps("_", "ZADD", key, "XX", "INCR", "9", over)
	}
	p.wantWords(":1", "ZADD", "z", "3", longest)
	p.wantWords("$4", "ZINCRBY", "z", "1", longest)
	p.wantWords(":1", "ZADD", "none", "1", longest)
	p.wantWords("$4", "ZSCORE", "z", longest)
	p.wantWords("[$a $b $c $"+longest+"]", "ZRANGE", "z", "0", "-1")
	p.keeps("_", "ZSCORE", "z", over)
	p.keeps("[_ $1]", "ZMSCORE", "z", over, "a")
	p.keeps("_", "ZRANK", "z", over)
	p.keeps(":0", "ZREM", "z", over)
	p.keeps(":4", "ZLEXCOUNT", "z", "-", "["+over)
	p.keeps(":3", "ZLEXCOUNT", "z", "-", "("+longest)
	p.wantWords(":1", "ZREM", "z", longest)
}

// refusedBy says what is told of words, and that an error leaves the marks of the keys as they were.
func refusedBy(t *testing.T, sp *keyspace.Space) func(want string, args ...string) {
	return func(want string, args ...string) {
		t.Helper()
		marks := func() (list []int) {
			for _, key := range sp.Keys(0) {
				v, _ := sp.Peek(0, key)
				list = append(list, sp.Mark(0, key), v.Len())
			}
			return list
		}
		before := marks()
		if got := told(Do(sp, 0, args)); got != want {
			t.Fatalf("%s: %s; want %s", line(args), short(got), want)
		}
		if strings.HasPrefix(want, "-") && !slices.Equal(marks(), before) {
			t.Fatalf("%s was refused, and has changed something", line(args))
		}
	}
}

// TestP181Most: as many members as there may be, by one command and by several, and one more; by a set of several keys.
func TestP181Most(t *testing.T) {
	for member, limits := range map[string]api.Thresholds{"": greatestLimits(), "m": leastLimits()} {
		t.Run(member, func(t *testing.T) {
			t.Parallel()
			sp := newSpace(limits)
			want := refusedBy(t, sp)
			large, full := "-"+tooLarge, fmt.Sprint(":", api.MaxCount)
			want(large, numbered("ZADD", "z", member, 1, api.MaxCount+1)...)
			want(full, numbered("ZADD", "z", member, 1, api.MaxCount)...)
			want(large, "ZADD", "z", "1", "x")
			want(large, "ZADD", "z", "INCR", "1", "x")
			want(large, "ZINCRBY", "z", "1", "x")
			want(large, "ZADD", "z", "9", member+"1", "9", member+"2000000")
			want("$1", "ZSCORE", "z", member+"1")
			want(":0", "ZADD", "z", "XX", "9", member+"1", "9", "x")
			want(":1", "ZADD", "z", "CH", "8", member+"1", "1048576", member+"1048576")
			want("$9", "ZINCRBY", "z", "1", member+"1")
			want("[$9 $2 $1048576 _]", "ZMSCORE", "z", member+"1", member+"2", member+"1048576", "x")
			want(":2", "ZADD", "more", "5", "x", "5", member+"1")
			want(large, "ZUNIONSTORE", "d", "2", "z", "more")
			want(large, "ZUNIONSTORE", "z", "2", "z", "more")
			want(full, "ZUNIONSTORE", "d", "2", "z", "none")
			want(full, "ZRANGESTORE", "d", "z", "0", "-1")
			want(":1", "ZINTERSTORE", "d", "2", "z", "more")
			want("[$x $"+member+"1]", "ZRANGE", "more", "0", "-1", "REV")
			r := Do(sp, 0, []string{"ZUNION", "2", "z", "more"}) // it is told, not made
			if r.Kind != api.ReplyArray || len(r.List) != api.MaxCount+1 {
				t.Errorf("ZUNION tells %d members, kind %d", len(r.List), r.Kind)
			}
			want(":1", "ZREM", "z", member+"77", "none")
			want(large, "ZADD", "z", "1", "x", "2", "y")
			want(full, "ZUNIONSTORE", "d", "2", "z", "more")
			want(":1", "ZADD", "z", "1", "x", "2", "x")
			want(full, "ZCARD", "z")
			want(fmt.Sprint(":", api.MaxCount-1), numberedNames("ZREM", "z", member, 1, api.MaxCount)...)
			want("[$x $2]", "ZRANGE", "z", "0", "-1", "WITHSCORES")
		})
	}
}

// TestP181Remove: members that are there and that are not, the same one twice, the last one, with which the key and its expiry go.
func TestP181Remove(t *testing.T) {
	for _, limits := range allLimits() {
		p := newTrial(t, limits)
		p.want("ZADD z 1 a 2 b 3 3", ":3")
		p.expire(0, "z", 5000)
		p.keeps(":0", "ZREM", "z", "x")
		p.keeps(":0", "ZREM", "z", "x", "03", "+3", "", "A", "1", "2")
		p.want("ZREM z b x b", ":1")
		p.holds("z", "a 1 3 3")
		p.due("z", 5000)
		p.keeps(":0", "ZREM", "z", "b")
		p.want("ZREM z x 3 a", ":2")
		p.holds("z", "")
		p.due("z", 0)
		p.keeps(":0", "ZREM", "z", "a")
		p.want("ZADD z 1 a 2 ''", ":2")
		p.due("z", -1)
		p.want("ZREM z ''", ":1")
		p.want("ZREM z a a a", ":1")
		p.holds("z", "")
	}
}
