package dump

import (
	"fmt"
	"math"
	"slices"
	"strings"
	"testing"

	"cistern/api"
)

const (
	greatest = "9223372036854775807"
	lowest   = "-9223372036854775808"
)

// noNumbers are words that are no number's text.
func noNumbers() []string {
	return []string{"", "x", "1x", " 1", "1 ", "+1", "01", "-0", "1.5", "1e3", "--1", "-", "0x1", "1\x00", "9223372036854775808", "-9223372036854775809", strings.Repeat("1", 100), "\u0661"}
}

var aText = payloadOf(0, "\x01a")

// TestDU2Restore: RESTORE makes a key of a payload of each type.
func TestDU2Restore(t *testing.T) {
	for _, th := range several {
		p := newTrial(t, th, false)
		for i, s := range samples() {
			p.wantIn(i%databases, "+OK", "RESTORE", s.name, "0", payloadOf(s.typ, s.body))
			p.holds(i%databases, s.name, s.v, -1)
		}
	}
}

// arrangements are all orders of some of these groups of words, none and all among them.
func arrangements(groups [][]string) [][]string {
	list := [][]string{nil}
	for i, group := range groups {
		others := slices.Delete(slices.Clone(groups), i, i+1)
		for _, behind := range arrangements(others) {
			list = append(list, append(slices.Clone(group), behind...))
		}
	}
	return list
}

// TestDU2Options: each option alone, and all of them in every order, some twice.
func TestDU2Options(t *testing.T) {
	groups := [][]string{{"REPLACE"}, {"ABSTTL"}, {"IDLETIME", "7"}, {"FREQ", "255"}}
	all := arrangements(groups)
	if len(all) != 65 {
		t.Fatalf("%d arrangements", len(all))
	}
	for _, words := range all {
		for _, again := range append([][]string{nil}, groups...) {
			words := slices.Concat(words, again)
			p := begun(t)
			due := 3000
			if slices.Contains(words, "ABSTTL") {
				due = 2000
			}
			p.want("+OK", append([]string{"RESTORE", "new", "2000", aText}, words...)...)
			p.holds(0, "new", made(1, middle, "a"), due)
			if !slices.Contains(words, "REPLACE") {
				p.refuses(busy, append([]string{"RESTORE", "timed", "2000", aText}, words...)...)
				continue
			}
			p.want("+OK", append([]string{"RESTORE", "timed", "2000", aText}, words...)...)
			p.holds(0, "timed", made(1, middle, "a"), due)
		}
	}
}

// TestDU2OptionWords: words that are no option, and options without the word that belongs to them; ahead of all that is wrong beside.
func TestDU2OptionWords(t *testing.T) {
	p := begun(t)
	for _, words := range [][]string{
		{""}, {"BOGUS"}, {"REPLACED"}, {"REPLAC"}, {" REPLACE"}, {"REPLACE "}, {"ABSTTL\x00"}, {"TTL"}, {"ABS"}, {"IDLE"}, {"0"}, {"NX"}, {"XX"}, {"KEEPTTL"}, {aText}, {strings.Repeat("REPLACE", 1000)},
		{"IDLETIME"}, {"FREQ"}, {"REPLACE", "IDLETIME"}, {"ABSTTL", "FREQ"}, {"IDLETIME", "1", "FREQ"}, {"FREQ", "1", "IDLETIME"}, {"IDLETIME", "1", "2"}, {"FREQ", "1", "2"}, {"IDLETIME", "1", "IDLETIME"}, {"REPLACE", "1"}, {"ABSTTL", "1"},
		{"REPLACE", "BOGUS"}, {"BOGUS", "REPLACE"}, {"IDLETIME", "x", "BOGUS"}, {"FREQ", "256", "BOGUS"}, {"IDLETIME", "-1", "FREQ"}, {"FREQ", "x", "IDLETIME"}, {"BOGUS", "IDLETIME", "x"}, {"IDLETIME", "FREQ", "1"}, {"FREQ", "REPLACE", "REPLACE", "x"},
	} {
		p.refuses(syntax, append([]string{"RESTORE", "new", "0", aText}, words...)...)
		p.refuses(syntax, append([]string{"RESTORE", "new", "x", aText}, words...)...)
		p.refuses(syntax, append([]string{"RESTORE", "str", "-1", "no payload"}, words...)...)
	}
}

// TestDU2Numbers: what may stand behind IDLETIME and FREQ, and what is told of what may not; of two that may not the first.
func TestDU2Numbers(t *testing.T) {
	p := begun(t)
	for _, word := range append(noNumbers(), "-1", lowest, "REPLACE", "FREQ") {
		p.refuses(badIdle, "RESTORE", "new", "0", aText, "IDLETIME", word)
		p.refuses(badFreq, "RESTORE", "new", "0", aText, "FREQ", word)
		p.refuses(badIdle, "RESTORE", "new", "0", aText, "idletime", word, "FREQ", "256")
		p.refuses(badFreq, "RESTORE", "new", "0", aText, "freq", word, "IDLETIME", "-1")
		p.refuses(badFreq, "RESTORE", "new", "0", aText, "IDLETIME", "0", "FREQ", word)
		p.refuses(badIdle, "RESTORE", "new", "0", aText, "FREQ", "0", "IDLETIME", word)
		p.refuses(badIdle, "RESTORE", "new", "0", aText, "IDLETIME", word, "IDLETIME", "1")
		p.refuses(badIdle, "RESTORE", "new", "0", aText, "IDLETIME", "1", "REPLACE", "IDLETIME", word)
		p.refuses(badFreq, "RESTORE", "new", "0", aText, "FREQ", word, "FREQ", "1")
		p.refuses(badFreq, "RESTORE", "new", "0", aText, "FREQ", "1", "FREQ", word, "ABSTTL")
	}
	for _, word := range []string{"256", "257", "511", "512", "65536", greatest} {
		p.refuses(badFreq, "RESTORE", "new", "0", aText, "FREQ", word)
	}
	for i, word := range []string{"0", "1", "9", "254", "255"} {
		p.want("+OK", "RESTORE", fmt.Sprint("freq", i), "0", aText, "FREQ", word)
	}
	for i, word := range []string{"0", "1", "255", "256", "9007199254740991", "9007199254740992", greatest} {
		key := fmt.Sprint("idle", i)
		p.want("+OK", "RESTORE", key, "0", aText, "IDLETIME", word)
		if idle := p.sp.Idle(0, key); idle != 0 {
			t.Errorf("%s is idle for %d", key, idle)
		}
	}
}

// TestDU2TTL: what a ttl may be, and until when a key is there by it.
func TestDU2TTL(t *testing.T) {
	p := begun(t)
	for _, options := range [][]string{nil, {"ABSTTL"}, {"REPLACE"}, {"ABSTTL", "REPLACE"}} {
		for _, word := range noNumbers() {
			p.refuses(noNumber, append([]string{"RESTORE", "new", word, aText}, options...)...)
			p.refuses(noNumber, append([]string{"RESTORE", "str", word, "no payload"}, options...)...)
		}
		for _, word := range []string{"-1", "-1000", "-9007199254740992", lowest} {
			p.refuses(badTTL, append([]string{"RESTORE", "new", word, aText}, options...)...)
			p.refuses(badTTL, append([]string{"RESTORE", "str", word, "no payload"}, options...)...)
		}
	}
	for _, c := range []struct {
		ttl      string
		due      int // without ABSTTL
		absolute int // with it; 0: the key is not there
	}{
		{"0", -1, -1},
		{"1", 1001, 0},
		{"999", 1999, 0},
		{"1000", 2000, 0},
		{"1001", 2001, 1001},
		{"123456", 124456, 123456},
		{"9007199254739990", maxNumber - 1, maxNumber - 1001},
		{"9007199254739991", maxNumber, maxNumber - 1000},
		{"9007199254739992", maxNumber, maxNumber - 999},
		{"9007199254740990", maxNumber, maxNumber - 1},
		{"9007199254740991", maxNumber, maxNumber},
		{"9007199254740992", maxNumber, maxNumber},
		{"9223372036854774807", maxNumber, maxNumber},
		{"9223372036854774808", maxNumber, maxNumber},
		{greatest, maxNumber, maxNumber},
	} {
		p := begun(t)
		p.want("+OK", "RESTORE", "new", c.ttl, aText)
		p.holds(0, "new", made(1, middle, "a"), c.due)
		p.want("+OK", "RESTORE", "other", c.ttl, aText, "ABSTTL")
		if c.absolute == 0 {
			p.gone(0, "other")
		} else {
			p.holds(0, "other", made(1, middle, "a"), c.absolute)
		}
		p.want("+OK", "RESTORE", "again", "0", aText)
	}
}

// TestDU2Life: a key is there till its time, and not from it on.
func TestDU2Life(t *testing.T) {
	p := begun(t)
	p.want("+OK", "RESTORE", "a", "1", aText)
	p.want("+OK", "RESTORE", "b", "2", aText)
	p.want("+OK", "RESTORE", "c", "1002", aText, "ABSTTL")
	p.want("+OK", "RESTORE", "d", "0", aText)
	p.advance(1)
	p.gone(0, "a")
	p.holds(0, "b", made(1, middle, "a"), 1002)
	p.holds(0, "c", made(1, middle, "a"), 1002)
	p.advance(1)
	p.gone(0, "b")
	p.gone(0, "c")
	p.advance(1 << 50)
	p.holds(0, "d", made(1, middle, "a"), -1)
}

// TestDU2Past: a time that is not above the clock drops the key, if it is there, and makes none; behind all that is told of an error.
func TestDU2Past(t *testing.T) {
	for _, ttl := range []string{"1", "999", "1000"} {
		for _, key := range []string{"str", "list", "set", "zset", "hash", "timed"} {
			p := begun(t)
			p.keeps("+OK", "RESTORE", "none", ttl, aText, "ABSTTL")
			p.refuses(busy, "RESTORE", key, ttl, aText, "ABSTTL")
			p.refuses(badSum, "RESTORE", key, ttl, aText+"x", "ABSTTL", "REPLACE")
			p.refuses(badFormat, "RESTORE", key, ttl, payloadOf(1, ""), "ABSTTL", "REPLACE")
			p.refuses(badSum, "RESTORE", "none", ttl, aText+"x", "ABSTTL")
			p.want("+OK", "RESTORE", key, ttl, aText, "ABSTTL", "REPLACE")
			p.gone(0, key)
			p.want("+OK", "RESTORE", key, "1001", aText, "ABSTTL", "REPLACE")
			p.holds(0, key, made(1, middle, "a"), 1001)
		}
	}
}

// TestDU2LastTime: at the greatest time no key comes that expires, and one that was there is gone; without a ttl it comes.
func TestDU2LastTime(t *testing.T) {
	for _, ttl := range []string{"1", "9007199254740991", greatest} {
		for _, options := range [][]string{{"REPLACE"}, {"ABSTTL", "REPLACE"}} {
			p := begun(t)
			p.advance(maxNumber - 1000)
			p.want("+OK", append([]string{"RESTORE", "str", ttl, aText}, options...)...)
			p.gone(0, "str")
			p.want("+OK", append([]string{"RESTORE", "none", ttl, aText}, options...)...)
			p.gone(0, "none")
			p.want("+OK", append([]string{"RESTORE", "list", "0", aText}, options...)...)
			p.holds(0, "list", made(1, middle, "a"), -1)
		}
	}
	p := begun(t)
	p.advance(maxNumber - 1001)
	p.want("+OK", "RESTORE", "new", "5", aText)
	p.holds(0, "new", made(1, middle, "a"), maxNumber)
	p.advance(1)
	p.gone(0, "new")
}

// TestDU2Busy: a key that is there is refused without REPLACE: behind the options and the ttl, ahead of the payload.
func TestDU2Busy(t *testing.T) {
	p := begun(t)
	for _, key := range []string{"str", "list", "set", "zset", "hash", "timed"} {
		for _, payload := range []string{aText, "", "no payload", aText + "x", payloadOf(1, ""), payloadOf(18, "\x00"), versioned(0, "\x00", 12, 0)} {
			p.refuses(busy, "RESTORE", key, "0", payload)
			p.refuses(busy, "RESTORE", key, "5", payload, "ABSTTL", "IDLETIME", "5", "FREQ", "5")
			p.refuses(noNumber, "RESTORE", key, "x", payload)
			p.refuses(badTTL, "RESTORE", key, "-1", payload)
			p.refuses(syntax, "RESTORE", key, "-1", payload, "BOGUS")
			p.refuses(badIdle, "RESTORE", key, "-1", payload, "IDLETIME", "x")
			p.refuses(badFreq, "RESTORE", key, "x", payload, "FREQ", "256")
		}
	}
	p.wantIn(1, "+OK", "RESTORE", "str", "0", aText)
	p.keepsIn(1, "-"+busy, "RESTORE", "str", "0", aText)
	p.keepsIn(1, "-"+busy, "RESTORE", "k", "0", aText)
	p.want("+OK", "RESTORE", "k", "0", aText)
}

// TestDU2Replace: with REPLACE a key of any kind, with an expiry or without, has the new value, of the same kind or another, and no other expiry than is told.
func TestDU2Replace(t *testing.T) {
	for _, s := range samples() {
		for _, key := range []string{"str", "list", "set", "zset", "hash", "timed", "none"} {
			for ttl, due := range map[string]int{"0": -1, "7": 1007, "9007199254740991": maxNumber} {
				p := begun(t)
				p.want("+OK", "RESTORE", key, ttl, payloadOf(s.typ, s.body), "REPLACE")
				p.holds(0, key, s.v, due)
			}
		}
	}
	p := begun(t)
	p.want("+OK", "RESTORE", "timed", "0", aText, "REPLACE")
	p.advance(1 << 40)
	p.holds(0, "timed", made(1, middle, "a"), -1)
}

// TestDU2Expired: a key whose time has come counts as not there.
func TestDU2Expired(t *testing.T) {
	p := begun(t)
	p.advance(499)
	p.refuses(busy, "RESTORE", "timed", "0", aText)
	p.advance(1)
	p.want("+OK", "RESTORE", "timed", "0", aText)
	p.holds(0, "timed", made(1, middle, "a"), -1)
	p.want("+OK", "RESTORE", "a", "1", aText)
	p.refuses(busy, "RESTORE", "a", "1", aText)
	p.advance(1)
	p.want("+OK", "RESTORE", "a", "1", aText)
}

// TestDU2Payload: a payload with a wrong version or sum and one with a right sum over what is no value have each an answer of their own, and change nothing, also with REPLACE.
func TestDU2Payload(t *testing.T) {
	p := begun(t)
	check := func(want, payload string) {
		t.Helper()
		for _, ttl := range []string{"0", "5", "500", greatest} {
			p.refuses(want, "RESTORE", "new", ttl, payload)
			p.refuses(want, "RESTORE", "new", ttl, payload, "REPLACE")
			p.refuses(want, "RESTORE", "new", ttl, payload, "ABSTTL")
			p.refuses(want, "RESTORE", "timed", ttl, payload, "REPLACE")
			p.refuses(want, "RESTORE", "str", ttl, payload, "REPLACE", "ABSTTL")
		}
		p.keepsIn(1, "-"+want, "RESTORE", "k", "0", payload, "REPLACE")
		p.keepsIn(databases, "-"+want, "RESTORE", "k", "0", payload)
		p.refuses(want, "RESTORE", strings.Repeat("k", maxKey+1), "0", payload)
	}
	for n := range 11 {
		check(badSum, aText[:n])
	}
	check(badSum, aText[:len(aText)-1])
	check(badSum, aText+"\x00")
	check(badSum, versioned(0, "\x01a", 12, 0))
	check(badSum, versioned(0, "\x01a", 11, 1))
	check(badSum, versioned(0, "\x01a", 255, 255))
	check(badSum, aText[:len(aText)-1]+"!")
	for _, w := range wrongs() {
		check(badFormat, w.payload)
		check(badSum, w.payload+"!")
	}
}

// TestDU2Fault: what keyspace.Put refuses is told by its Fault, and changes nothing.
func TestDU2Fault(t *testing.T) {
	p := begun(t)
	long, fits := strings.Repeat("k", maxKey+1), strings.Repeat("k", maxKey)
	for _, options := range [][]string{nil, {"REPLACE"}, {"ABSTTL"}, {"IDLETIME", "1", "REPLACE"}} {
		for _, ttl := range []string{"0", "2000"} {
			p.refuses(tooLarge, append([]string{"RESTORE", long, ttl, aText}, options...)...)
			for _, db := range []int{-1, databases, math.MinInt, math.MaxInt} {
				p.keepsIn(db, "-"+syntax, append([]string{"RESTORE", "str", ttl, aText}, options...)...)
				p.keepsIn(db, "-"+syntax, append([]string{"RESTORE", long, ttl, aText}, options...)...)
			}
		}
	}
	p.keeps("+OK", "RESTORE", long, "1", aText, "ABSTTL")
	p.keepsIn(databases, "+OK", "RESTORE", "str", "1", aText, "ABSTTL")
	p.keepsIn(-1, "+OK", "RESTORE", "str", "1", aText, "ABSTTL", "REPLACE")
	p.want("+OK", "RESTORE", fits, "5", aText)
	p.holds(0, fits, made(1, middle, "a"), 1005)
	p.refuses(busy, "RESTORE", fits, "5", aText)
}

// TestDU2Full: a full space takes no new key, by which nothing changes, but exchanges the value of one that is there, and drops one.
func TestDU2Full(t *testing.T) {
	sp := newSpace(middle, false)
	v := made(1, middle, "x")
	for i := range maxKeys {
		if e := sp.Put(i%2, fmt.Sprint(i), v); e != api.OK {
			t.Fatalf("Put: error %d", e)
		}
	}
	sp.Advance(10)
	state := func() string {
		return fmt.Sprint(sp.Len(0), sp.Len(1), sp.Len(2), sp.Mark(0, "0"), sp.Idle(0, "0"), sp.Used())
	}
	ask := func(db int, want string, args ...string) {
		t.Helper()
		if got := told(Do(sp, db, args)); got != want {
			t.Errorf("%s: %s; want %s", line(args), got, want)
		}
	}
	before := state()
	ask(0, "-"+tooMany, "RESTORE", "new", "0", aText)
	ask(0, "-"+tooMany, "RESTORE", "new", "5", aText, "REPLACE")
	ask(0, "-"+tooMany, "RESTORE", "1", "5", aText, "REPLACE")
	ask(2, "-"+tooMany, "RESTORE", "0", "11", aText, "ABSTTL")
	ask(2, "-"+tooMany, "RESTORE", "0", "0", aText, "ABSTTL")
	ask(0, "-"+badSum, "RESTORE", "new", "0", aText+"x")
	ask(0, "-"+badFormat, "RESTORE", "new", "0", payloadOf(1, ""))
	ask(0, "-"+busy, "RESTORE", "0", "0", aText)
	ask(0, "+OK", "RESTORE", "new", "10", aText, "ABSTTL")
	if got := state(); got != before {
		t.Errorf("%s; once %s", got, before)
	}
	ask(0, "+OK", "RESTORE", "0", "7", aText, "REPLACE")
	if at, ok := sp.Expiry(0, "0"); at != 17 || !ok || sp.Len(-1) != maxKeys {
		t.Errorf("expires at %d, %d keys", at, sp.Len(-1))
	}
	ask(0, "+OK", "RESTORE", "0", "3", aText, "REPLACE", "ABSTTL")
	if sp.Len(-1) != maxKeys-1 {
		t.Errorf("%d keys", sp.Len(-1))
	}
	ask(2, "+OK", "RESTORE", "new", "0", aText)
	ask(2, "-"+tooMany, "RESTORE", "newer", "0", aText)
}
