package texts

import (
	"fmt"
	"math"
	"slices"
	"strings"
	"testing"

	"cistern/api"
)

// before says what there is of the key k ahead of a trial of options: nothing, a string, one that expires, values of other kinds, one that expires.
var before = []struct {
	name string
	give func(p *trial)
}{
	{"nothing", func(p *trial) {}},
	{"a string", func(p *trial) { p.want("SET k old", "+OK") }},
	{"an empty string", func(p *trial) { p.want("SET k ''", "+OK") }},
	{"a string that expires", func(p *trial) { p.want("SET k old PXAT 5000", "+OK") }},
	{"a list", func(p *trial) { p.give(0, "k", api.KindList) }},
	{"a set", func(p *trial) { p.give(0, "k", api.KindSet) }},
	{"a sorted set", func(p *trial) { p.give(0, "k", api.KindZset) }},
	{"a hash that expires", func(p *trial) { p.give(0, "k", api.KindHash); p.expire(0, "k", 6000) }},
}

// begun is a trial at the time 1000, with other keys about.
func begun(t testing.TB) *trial {
	t.Helper()
	p := newTrial(t)
	p.advance(1000)
	p.want("SET other 1 PX 500", "+OK")
	p.askIn(1, "SET", "k", "elsewhere")
	return p
}

// setOptions are all options that SET may have, with words that they may have behind them.
func setOptions() [][]string {
	list := [][]string{{}, {"NX"}, {"XX"}, {"GET"}, {"KEEPTTL"}}
	for _, o := range []string{"EX", "PX", "EXAT", "PXAT"} {
		list = append(list, []string{o, "1"}, []string{o, "7"}, []string{o, "5000"}, []string{o, "x"}, []string{o, "0"}, []string{o, "-1"}, []string{o, "9007199254740992"}, []string{o, "NX"}, []string{o})
	}
	return append(list, []string{"PERSIST"}, []string{"NXX"}, []string{""}, []string{"5"}, []string{"\u212aEEPTTL"}, []string{"N X"})
}

// TestP14_1SetOptions: every option alone and in pairs, in any order and twice, in small, great and mixed letters, on keys of all kinds.
func TestP14_1SetOptions(t *testing.T) {
	t.Parallel()
	letters := []func(string) string{strings.ToUpper, strings.ToLower, func(s string) string { return mixed(strings.ToLower(s)) }}
	for _, b := range before {
		for i, one := range setOptions() {
			for j, two := range setOptions() {
				p := begun(t)
				b.give(p)
				args := slices.Concat([]string{"SET", "k", "new"}, one, two)
				for at := range args[3:] {
					if args[3+at] == "\u212aEEPTTL" {
						continue
					}
					args[3+at] = letters[(i+j)%3](args[3+at])
				}
				p.ask(args...)
				p.advance(4000)
			}
		}
	}
}

// TestP14_1SetThree: three and more options, in all orders.
func TestP14_1SetThree(t *testing.T) {
	sets := [][]string{{"NX", "GET", "PX 7"}, {"XX", "GET", "KEEPTTL"}, {"XX", "GET", "EXAT 3"}, {"GET", "NX", "XX"}, {"XX", "KEEPTTL", "PX 7"}, {"GET", "GET", "XX"}}
	orders := [][3]int{{0, 1, 2}, {0, 2, 1}, {1, 0, 2}, {1, 2, 0}, {2, 0, 1}, {2, 1, 0}}
	for _, b := range before {
		for _, s := range sets {
			var first string
			for _, o := range orders {
				p := begun(t)
				b.give(p)
				args := strings.Fields("SET k new " + s[o[0]] + " " + s[o[1]] + " " + s[o[2]])
				got := p.ask(args...) + "\n" + p.unused()
				if first == "" {
					first = got
				}
				if got != first {
					t.Errorf("%s, %q: %s; want %s", b.name, args, got, first)
				}
			}
		}
	}
}

// TestP14_1SetSyntax: options that can't be are refused ahead of all else, and nothing is looked at.
func TestP14_1SetSyntax(t *testing.T) {
	for _, options := range []string{
		"NX XX", "XX NX", "NX NX", "XX XX", "nx Nx", "GET GET", "GET get", "KEEPTTL KEEPTTL", "EX 5 EX 5", "EX 5 PX 5", "PX 5 EXAT 5", "EXAT 5 PXAT 5", "PXAT 5 KEEPTTL", "KEEPTTL EX 5",
		"EX", "PX", "EXAT", "PXAT", "NX EX", "EX 5 NX EX", "PERSIST", "BOGUS", "''", "5", "EX 5 5", "NX 5", "GET old", "EX x BOGUS", "EX 0 NX XX", "EX 0 PX", "PX -1 KEEPTTL", "EX EX 5", "EX 5 GET NX GET",
	} {
		p := begun(t)
		p.give(0, "k", api.KindList)
		p.want("GET other", "$1")
		p.refuses("SET k v "+options, syntax)
		p.refuses("SET none v "+options, syntax)
		if idle := p.sp.Idle(0, "k"); idle != 1 {
			t.Errorf("SET k v %s: idle %d", options, idle)
		}
	}
}

// expiryEdges are words behind an expiry option at the time 1000, and the times that they mean; -1: refused; -2: no number.
func expiryEdges(option string) map[string]int {
	const most = 1<<53 - 1
	edges := map[string]int{
		"0": -1, "-1": -1, "-5000": -1, fmt.Sprint(math.MinInt): -1, fmt.Sprint(math.MaxInt): -1, fmt.Sprint(most + 1): -1, fmt.Sprint(math.MaxInt/1000 + 1): -1, "18446744073709552": -1,
		"": -2, "x": -2, "+5": -2, "05": -2, "5.0": -2, " 5": -2, "9223372036854775808": -2, "-9223372036854775809": -2, "-0": -2, "1e3": -2, "NX": -2,
	}
	switch option {
	case "EX":
		edges["1"], edges["2"], edges[fmt.Sprint((most-1000)/1000)], edges[fmt.Sprint((most-1000)/1000+1)] = 2000, 3000, 1000+(most-1000)/1000*1000, -1
		edges[fmt.Sprint(most/1000)] = -1
	case "PX":
		edges["1"], edges["2"], edges[fmt.Sprint(most-1000)], edges[fmt.Sprint(most-999)], edges[fmt.Sprint(most)] = 1001, 1002, most, -1, -1
	case "EXAT":
		edges["1"], edges["2"], edges[fmt.Sprint(most/1000)], edges[fmt.Sprint(most/1000+1)] = 1000, 2000, most/1000*1000, -1
	case "PXAT":
		edges["1"], edges["999"], edges["1000"], edges["1001"], edges[fmt.Sprint(most)] = 1, 999, 1000, 1001, most
	}
	return edges
}

// TestP14_1ExpiryOptions: the edges of N with SET and with GETEX; the name in the error; a time that is not above the clock.
func TestP14_1ExpiryOptions(t *testing.T) {
	for _, option := range []string{"EX", "PX", "EXAT", "PXAT"} {
		for word, at := range expiryEdges(option) {
			for _, command := range []string{"SET k new", "GETEX k"} {
				name := strings.ToLower(strings.Fields(command)[0])
				p := begun(t)
				p.want("SET k old", "+OK")
				args := append(strings.Fields(command), option, word)
				switch at {
				case -1:
					p.refusesWords(badTime(name), args...)
					continue
				case -2:
					p.refusesWords(noNumber, args...)
					continue
				}
				want := map[string]string{"set": "+OK", "getex": "$old"}[name]
				if got := p.ask(args...); got != want {
					t.Errorf("%q: %s", args, got)
				}
				due, there := p.sp.Expiry(0, "k")
				if there != (at > 1000) || there && due != at {
					t.Errorf("%q: %v, due %d; want %d", args, there, due, at)
				}
			}
		}
	}
}

// TestP14_1SetNot: a SET that is refused or not set does not come to the errors of its value or key.
func TestP14_1SetNot(t *testing.T) {
	long, key := strings.Repeat("v", api.MaxElement+1), strings.Repeat("k", api.MaxKey+1)
	p := begun(t)
	p.want("SET k old", "+OK")
	p.give(0, "l", api.KindList)
	for _, c := range []struct {
		want string
		args []string
	}{
		{"_", []string{"SET", "k", long, "NX"}},
		{"$old", []string{"SET", "k", long, "NX", "GET"}},
		{"_", []string{"SET", key, "v", "XX"}},
		{"_", []string{"SET", "none", long, "XX", "GET"}},
		{"-" + wrongType, []string{"SET", "l", long, "GET"}},
		{"-" + wrongType, []string{"SET", "l", "v", "NX", "GET"}},
		{"-" + wrongType, []string{"SET", "l", "v", "GET", "XX", "EX", "5"}},
		{"_", []string{"SET", "l", "v", "NX"}},
		{"-" + tooLarge, []string{"SET", "k", long}},
		{"-" + tooLarge, []string{"SET", "k", long, "XX", "GET", "EX", "5"}},
		{"-" + tooLarge, []string{"SET", key, "v", "NX"}},
		{"-" + tooLarge, []string{"SET", key, long, "KEEPTTL"}},
		{"-" + syntax, []string{"SET", key, long, "KEEPTTL", "NX", "XX"}},
		{"-" + badTime("set"), []string{"SET", "l", long, "GET", "EX", "0"}},
		{"-" + noNumber, []string{"SET", "l", long, "GET", "EX", "x"}},
		{"+OK", []string{"SET", "k", long[1:]}},
		{"+OK", []string{"SET", key[1:], "v"}},
		{"+OK", []string{"SET", "l", "v", "XX"}},
		{"+OK", []string{"SET", "", ""}},
	} {
		before := p.unused()
		if got := p.ask(c.args...); got != c.want {
			t.Errorf("%s: %s; want %s", line(c.args), short(got), c.want)
		}
		if c.want != "+OK" && p.unused() != before {
			t.Errorf("%s: %s, and something has changed", line(c.args), c.want)
		}
	}
}

// TestP14_1Expiries: what becomes of an expiry by each command that writes or works on a string.
func TestP14_1Expiries(t *testing.T) {
	const is = 5000
	for line, want := range map[string]int{
		"SET k 5": -1, "SET k 5 XX": -1, "SET k 5 GET": -1, "SET k 5 KEEPTTL": is, "SET k 5 XX GET KEEPTTL": is, "SET k 5 NX": is, "SET k 5 EX 9": 10000, "SET k 5 PX 9": 1009, "SET k 5 EXAT 9": 9000, "SET k 5 PXAT 9000": 9000,
		"GETSET k 5": -1, "SETNX k 5": is, "SETEX k 9 5": 10000, "PSETEX k 9 5": 1009, "APPEND k 5": is, "APPEND k ''": is,
		"INCR k": is, "DECR k": is, "INCRBY k 7": is, "DECRBY k 7": is, "INCRBY k 0": is, "SETRANGE k 1 x": is, "SETRANGE k 1 ''": is, "SETRANGE k 9 x": is, "SETBIT k 1 1": is, "SETBIT k 99 0": is,
		"MSET k 5": -1, "MSET j 5 k 6": -1, "MSETNX j 5 k 6": is, "BITOP AND k k": -1, "BITOP OR k k other": -1, "BITOP NOT k other": -1, "BITOP XOR other k": is,
		"GETEX k": is, "GETEX k PERSIST": -1, "GETEX k EX 9": 10000, "GETEX k PX 9": 1009, "GETEX k EXAT 9": 9000, "GETEX k PXAT 9000": 9000,
		"GET k": is, "MGET k": is, "STRLEN k": is, "GETRANGE k 0 -1": is, "GETBIT k 1": is, "BITCOUNT k": is, "BITPOS k 1": is,
	} {
		p := begun(t)
		p.want("SET k 12 PXAT 5000", "+OK")
		p.want(line, p.peek(line))
		if due, there := p.sp.Expiry(0, "k"); !there || due != want {
			t.Errorf("%s: due %d, %v; want %d", line, due, there, want)
		}
		p.advance(3999)
		p.advance(1)
		if _, there := p.sp.Peek(0, "k"); there != (want < 0 || want > 5000) {
			t.Errorf("%s: at its time it is there: %v", line, there)
		}
	}
	for _, line := range []string{"SET k 5 PXAT 1000", "SET k 5 EXAT 1", "SET k 5 PXAT 1", "GETEX k PXAT 1000", "GETEX k EXAT 1", "GETDEL k", "BITOP AND k none"} {
		p := begun(t)
		p.want("SET k 12 PXAT 5000", "+OK")
		p.want(line, p.peek(line))
		if _, there := p.sp.Peek(0, "k"); there {
			t.Errorf("%s: it is there", line)
		}
	}
}

// peek is what a line would be told, on a space like this one.
func (p *trial) peek(line string) string {
	return told(Do(p.sp.Clone(), 0, split(line)))
}

// TestP14_1Time: a key is there till its time, and from then on for no command.
func TestP14_1Time(t *testing.T) {
	for _, c := range []struct{ line, early, late string }{
		{"GET k", "$12", "_"}, {"MGET k k", "*$12 $12", "*_ _"}, {"STRLEN k", ":2", ":0"}, {"SETNX k 5", ":0", ":1"}, {"MSETNX k 5", ":0", ":1"}, {"SET k 5 NX", "_", "+OK"}, {"SET k 5 XX", "+OK", "_"}, {"SET k 5 GET", "$12", "_"},
		{"INCR k", ":13", ":1"}, {"APPEND k x", ":3", ":1"}, {"GETSET k x", "$12", "_"}, {"GETDEL k", "$12", "_"}, {"GETEX k PERSIST", "$12", "_"}, {"GETRANGE k 0 -1", "$12", "$"}, {"SETRANGE k 2 x", ":3", ":3"},
		{"BITCOUNT k", ":6", ":0"}, {"BITPOS k 0", ":0", ":0"}, {"BITPOS k 1", ":2", ":-1"}, {"BITOP NOT d k", ":2", ":0"}, {"GETBIT k 2", ":1", ":0"}, {"SETBIT k 2 0", ":1", ":0"}, {"SET k 5 KEEPTTL", "+OK", "+OK"},
	} {
		for _, expiring := range []string{"SET k 12 PX 50", "SETEX k 1 12", "PSETEX k 50 12", "SET k 12 PXAT 1050"} {
			span := 50
			if expiring == "SETEX k 1 12" {
				span = 1000
			}
			p := begun(t)
			p.want(expiring, "+OK")
			p.advance(span - 1)
			p.want(c.line, c.early)
			p = begun(t)
			p.want(expiring, "+OK")
			p.advance(span)
			p.want(c.line, c.late)
		}
	}
}

// TestP14_1SetEx: SETEX and PSETEX at the edges of N, with their names in the error; the key is not looked at, whatever it is.
func TestP14_1SetEx(t *testing.T) {
	for name, option := range map[string]string{"SETEX": "EX", "PSETEX": "PX", "setex": "EX", "PsetEX": "PX"} {
		for word, at := range expiryEdges(option) {
			for _, b := range before {
				p := begun(t)
				b.give(p)
				args := []string{name, "k", word, "new"}
				switch at {
				case -1:
					p.refusesWords(badTime(strings.ToLower(name)), args...)
					continue
				case -2:
					p.refusesWords(noNumber, args...)
					continue
				}
				if got := p.ask(args...); got != "+OK" {
					t.Errorf("%q: %s", args, got)
				}
				if due, _ := p.sp.Expiry(0, "k"); due != at {
					t.Errorf("%q: due %d; want %d", args, due, at)
				}
			}
		}
		p := begun(t)
		long, key := strings.Repeat("v", api.MaxElement+1), strings.Repeat("k", api.MaxKey+1)
		p.refusesWords(noNumber, name, key, "x", long)
		p.refusesWords(badTime(strings.ToLower(name)), name, key, "0", long)
		p.refusesWords(tooLarge, name, "k", "5", long)
		p.refusesWords(tooLarge, name, key, "5", "v")
	}
}

// TestP14_1GetEx: one option at most; its errors ahead of the key's.
func TestP14_1GetEx(t *testing.T) {
	for _, b := range before {
		for _, options := range []string{"", "PERSIST", "persist", "EX 5", "px 5", "ExAt 5", "PXAT 5000", "PXAT 10", "EX", "PX", "EXAT", "PXAT", "EX 0", "EX x", "PERSIST PERSIST", "PERSIST EX 5", "EX 5 PERSIST", "EX 5 EX 5", "EX 5 PX 5", "KEEPTTL", "NX", "XX", "GET", "5", "''", "EX 0 PERSIST", "EX x EX"} {
			p := begun(t)
			b.give(p)
			p.want("GETEX k "+options, p.peek("GETEX k "+options))
			p.advance(4000)
		}
	}
	p := begun(t)
	p.give(0, "l", api.KindSet)
	p.refuses("GETEX l EX 0 PX 5", syntax)
	p.refuses("GETEX l EX 0", badTime("getex"))
	p.refuses("GeTeX l EX x", noNumber)
	p.refuses("GETEX l EX 5", wrongType)
	p.refuses("GETEX l PERSIST", wrongType)
	p.want("GETEX none EX 5", "_")
	p.want("GETEX none PERSIST", "_")
	p.want("SET k v PX 9", "+OK")
	p.want("GETEX k PERSIST", "$v")
	mark := p.sp.Mark(0, "k")
	p.want("GETEX k PERSIST", "$v")
	p.want("GETEX k", "$v")
	if p.sp.Mark(0, "k") != mark {
		t.Errorf("GETEX changed a key that has no expiry")
	}
}
