package keys

import (
	"fmt"
	"strings"
	"testing"

	"cistern/api"
)

// timers are the commands that give a key an expiry.
var timers = []string{"expire", "pexpire", "expireat", "pexpireat"}

// TestKY1Expire: the time that each command means, on a key with and without an expiry.
func TestKY1Expire(t *testing.T) {
	for _, c := range []struct {
		line string
		due  int // 0: the key goes
	}{
		{"EXPIRE k 3", 4000}, {"PEXPIRE k 3", 1003}, {"EXPIREAT k 3", 3000}, {"PEXPIREAT k 3000", 3000}, {"PEXPIRE k 1", 1001}, {"PEXPIREAT k 1001", 1001},
		{"EXPIRE k 0", 0}, {"PEXPIRE k 0", 0}, {"EXPIREAT k 0", 0}, {"PEXPIREAT k 0", 0}, {"EXPIREAT k 1", 0}, {"PEXPIREAT k 1000", 0}, {"PEXPIREAT k 999", 0}, {"EXPIRE k -1", 0}, {"PEXPIRE k -1", 0}, {"EXPIREAT k -1", 0}, {"PEXPIREAT k -1", 0}, {"EXPIRE k -5000", 0}, {"PEXPIRE k -5000", 0},
	} {
		for _, before := range []int{0, 2000, 9000} {
			for _, kind := range kinds {
				p := begun(t)
				p.give(0, "k", kind, "3", "1")
				p.expire(0, "k", max(before, 1001))
				if before == 0 {
					p.want("PERSIST k", ":1")
				}
				was := p.sp.Mark(0, "k")
				uses := p.sp.Idle(0, "other")
				p.want(c.line, ":1")
				p.due(0, "k", c.due)
				if c.due == 0 {
					p.want("EXISTS k", ":0")
				} else if p.sp.Mark(0, "k") <= was {
					t.Errorf("%s leaves the mark at %d", c.line, was)
				}
				if p.sp.Idle(0, "other") != uses {
					t.Errorf("%s is a use", c.line)
				}
				p.due(0, "other", 1500)
				p.due(1, "k", -1)
			}
		}
	}
}

// TestKY1ExpireBounds: N, products and sums at both bounds of the time, and one beyond each.
func TestKY1ExpireBounds(t *testing.T) {
	const seconds = maxNumber / 1000
	for _, c := range []struct {
		name   string
		now, n int
		due    int // 0: the key goes; -1: refused
	}{
		{"pexpireat", 1000, maxNumber, maxNumber}, {"pexpireat", 1000, maxNumber + 1, -1}, {"pexpireat", 1000, -maxNumber, 0}, {"pexpireat", 1000, -maxNumber - 1, -1}, {"pexpireat", 1000, 1<<63 - 1, -1}, {"pexpireat", 1000, -1 << 63, -1},
		{"pexpire", 1000, maxNumber - 1000, maxNumber}, {"pexpire", 1000, maxNumber - 999, -1}, {"pexpire", 1000, maxNumber, -1}, {"pexpire", 1000, maxNumber + 1, -1}, {"pexpire", 1000, -maxNumber, 0}, {"pexpire", 1000, -maxNumber - 1, -1}, {"pexpire", 1000, -maxNumber - 1000, -1}, {"pexpire", 1000, 1<<63 - 1, -1}, {"pexpire", 1000, -1 << 63, -1},
		{"expireat", 1000, seconds, seconds * 1000}, {"expireat", 1000, seconds + 1, -1}, {"expireat", 1000, -seconds, 0}, {"expireat", 1000, -seconds - 1, -1}, {"expireat", 1000, maxNumber, -1}, {"expireat", 1000, maxNumber + 1, -1}, {"expireat", 1000, -maxNumber, -1}, {"expireat", 1000, 1<<63 - 1, -1}, {"expireat", 1000, -1 << 63, -1}, {"expireat", 1000, 1 << 61, -1}, {"expireat", 1000, 18446744073709553, -1}, {"expireat", 1000, -18446744073709553, -1},
		{"expire", 1000, seconds - 1, seconds * 1000}, {"expire", 1000, seconds, -1}, {"expire", 1000, seconds + 1, -1}, {"expire", 1000, -seconds, 0}, {"expire", 1000, -seconds - 1, -1}, {"expire", 1000, maxNumber, -1}, {"expire", 1000, 1<<63 - 1, -1}, {"expire", 1000, -1 << 63, -1}, {"expire", 1000, 18446744073709553, -1},
		{"expire", 991, seconds, maxNumber}, {"expire", 992, seconds, -1}, {"expire", 990, seconds, maxNumber - 1}, {"expire", 0, seconds, maxNumber - 991}, {"expire", 50_000, -seconds - 1, -1},
		{"pexpire", maxNumber - 1, 1, maxNumber}, {"pexpire", maxNumber - 1, 2, -1}, {"pexpire", maxNumber, 0, 0}, {"pexpire", maxNumber, 1, -1}, {"expire", maxNumber, 1, -1}, {"expire", maxNumber, 0, 0}, {"expire", maxNumber, -seconds, 0}, {"pexpire", maxNumber, -maxNumber, 0}, {"pexpireat", maxNumber, maxNumber, 0},
	} {
		p := newTrial(t, someLimits())
		p.advance(c.now)
		p.give(0, "k", api.KindString, "x")
		words := fmt.Sprint(c.name, " k ", c.n)
		if c.due < 0 {
			p.refuses(words, badTime(c.name))
			p.refuses(strings.ToUpper(c.name)+words[len(c.name):], badTime(c.name))
			p.refuses(fmt.Sprint(c.name, " none ", c.n), badTime(c.name))
			continue
		}
		p.want(words, ":1")
		p.due(0, "k", c.due)
	}
}

// TestKY1ExpireNumbers: words that are no number, with keys that are there and are not.
func TestKY1ExpireNumbers(t *testing.T) {
	p := withKeys(t)
	for _, name := range timers {
		for _, word := range noNumbers() {
			for _, key := range []string{"str", "timed", "none"} {
				p.refusesWords(noNumber, name, key, word)
				p.refusesWords(noNumber, name, key, word, "NX")
			}
		}
	}
}

// TestKY1ExpireWords: NX, XX, GT and LT in any letters on a key without an expiry and with one, at an earlier, an equal and a later time.
func TestKY1ExpireWords(t *testing.T) {
	for _, name := range timers {
		n := func(at int) int {
			switch name {
			case "expire":
				return (at - 1000) / 1000
			case "pexpire":
				return at - 1000
			case "expireat":
				return at / 1000
			}
			return at
		}
		for _, c := range []struct {
			word                     string
			never, sooner, at, later bool
		}{
			{"", true, true, true, true}, {"NX", true, false, false, false}, {"XX", false, true, true, true}, {"GT", false, false, false, true}, {"LT", true, true, false, false},
		} {
			for _, spelt := range []func(string) string{strings.ToLower, strings.ToUpper, mixed} {
				for i, done := range []bool{c.never, c.sooner, c.at, c.later} {
					p := begun(t)
					p.give(0, "k", api.KindString, "x")
					due, at := 5000, []int{7000, 4000, 5000, 6000}[i]
					if i > 0 {
						p.expire(0, "k", due)
					} else {
						due = -1
					}
					args := append([]string{name, "k", fmt.Sprint(n(at))}, strings.Fields(spelt(c.word))...)
					if !done {
						p.keeps(":0", args...)
						p.due(0, "k", due)
						continue
					}
					p.wantWords(":1", args...)
					p.due(0, "k", at)
				}
				p := begun(t)
				p.keeps(":0", append([]string{name, "none", "7"}, strings.Fields(spelt(c.word))...)...)
			}
		}
	}
}

// TestKY1ExpirePast: a time that is not above the clock lets the key go, by whatever word, unless the word says no.
func TestKY1ExpirePast(t *testing.T) {
	for _, c := range []struct {
		key, word, want string
		gone            bool
	}{
		{"str", "", ":1", true}, {"str", "NX", ":1", true}, {"str", "XX", ":0", false}, {"str", "GT", ":0", false}, {"str", "LT", ":1", true},
		{"timed", "", ":1", true}, {"timed", "NX", ":0", false}, {"timed", "XX", ":1", true}, {"timed", "GT", ":0", false}, {"timed", "LT", ":1", true},
	} {
		for _, line := range []string{"EXPIRE %s 0 %s", "EXPIRE %s -9 %s", "PEXPIRE %s 0 %s", "EXPIREAT %s 1 %s", "PEXPIREAT %s 1000 %s", "PEXPIREAT %s -1 %s"} {
			p := withKeys(t)
			p.want(strings.TrimSpace(fmt.Sprintf(line, c.key, c.word)), c.want)
			if _, there := p.sp.Peek(0, c.key); there == c.gone {
				t.Errorf("%s with %q is there: %v", c.key, c.word, there)
			}
		}
	}
}

// TestKY1ExpireOptions: another word is told as it is, whatever its bytes.
func TestKY1ExpireOptions(t *testing.T) {
	p := withKeys(t)
	for _, name := range timers {
		for _, word := range []string{"ZZ", "zz", "", "N", "NXX", " NX", "NX ", "NX,GT", "\r\n\x00\xff", "12", strings.Repeat("w", 100000)} {
			for _, key := range []string{"str", "timed", "none"} {
				p.refusesWords(noOption+word, name, key, "1", word)
			}
		}
	}
}

// TestKY1Tell: TTL, PTTL, EXPIRETIME and PEXPIRETIME at the half of a second, a millisecond ahead of it and behind it.
func TestKY1Tell(t *testing.T) {
	for _, c := range []struct{ now, due, ttl, time int }{
		{0, 1, 0, 0}, {0, 499, 0, 0}, {0, 500, 1, 1}, {0, 501, 1, 1}, {0, 999, 1, 1}, {0, 1000, 1, 1}, {0, 1499, 1, 1}, {0, 1500, 2, 2}, {0, 1501, 2, 2},
		{300, 799, 0, 1}, {300, 800, 1, 1}, {300, 801, 1, 1}, {300, 1499, 1, 1}, {300, 1500, 1, 2}, {300, 1799, 1, 2}, {300, 1800, 2, 2}, {700, 1499, 1, 1}, {700, 1199, 0, 1}, {700, 1200, 1, 1},
		{0, maxNumber, 9007199254741, 9007199254741}, {maxNumber - 1, maxNumber, 0, 9007199254741}, {0, maxNumber - 491, 9007199254741, 9007199254741}, {0, maxNumber - 492, 9007199254740, 9007199254740},
	} {
		p := newTrial(t, someLimits())
		p.advance(c.now)
		p.give(0, "k", api.KindString, "x")
		p.expire(0, "k", c.due)
		for name, want := range map[string]int{"TTL": c.ttl, "PTTL": c.due - c.now, "EXPIRETIME": c.time, "PEXPIRETIME": c.due} {
			p.keeps(told(number(want)), name, "k")
			p.keeps(":-2", name, "none")
		}
		p.give(0, "l", api.KindList, "x")
		uses := p.uses(0)
		for _, name := range []string{"TTL", "PTTL", "EXPIRETIME", "PEXPIRETIME"} {
			p.keeps(":-1", name, "l")
			p.wantIn(1, name+" k", ":-2")
		}
		if got := p.uses(0); got != uses {
			t.Errorf("the uses are %s; want %s", got, uses)
		}
	}
}

// TestKY1Persist: PERSIST with an expiry, which goes, and without one.
func TestKY1Persist(t *testing.T) {
	for _, kind := range kinds {
		p := begun(t)
		p.give(0, "k", kind, "3", "1")
		p.keeps(":0", "PERSIST", "k")
		p.expire(0, "k", 2000)
		mark, uses := p.sp.Mark(0, "k"), p.uses(0)
		p.want("PERSIST k", ":1")
		p.due(0, "k", -1)
		if p.sp.Mark(0, "k") <= mark || p.uses(0) != uses {
			t.Errorf("behind PERSIST: mark %d, uses %s", p.sp.Mark(0, "k"), p.uses(0))
		}
		p.keeps(":0", "PERSIST", "k")
		p.keeps(":0", "PERSIST", "none")
		p.advance(5000)
		p.want("EXISTS k other", ":1")
	}
}

// TestP11: from its time on no command shows a key, whether or not it was looked at.
func TestP11(t *testing.T) {
	for _, c := range []struct{ line, before, behind string }{
		{"DEL timed", ":1", ":0"}, {"EXISTS timed", ":1", ":0"}, {"TOUCH timed", ":1", ":0"}, {"TYPE timed", "+list", "+none"}, {"EXPIRE timed 9", ":1", ":0"}, {"TTL timed", ":0", ":-2"}, {"PTTL timed", ":1", ":-2"}, {"EXPIRETIME timed", ":4", ":-2"}, {"PEXPIRETIME timed", ":4000", ":-2"}, {"PERSIST timed", ":1", ":0"},
		{"RENAME timed x", "+OK", "-" + noKey}, {"RENAMENX timed x", ":1", "-" + noKey}, {"RENAMENX str timed", ":0", ":1"}, {"COPY timed x", ":1", ":0"}, {"COPY str timed", ":0", ":1"}, {"MOVE timed 1", ":1", ":0"}, {"KEYS t*", "[$timed]", "[]"}, {"SCAN 0 MATCH t*", "[$0 [$timed]]", "[$0 []]"}, {"DBSIZE", ":2", ":1"}, {"OBJECT ENCODING timed", "$listpack", "_"}, {"SORT timed", "[$1 $2]", "[]"}, {"SORT timed STORE x", ":2", ":0"}, {"RANDOMKEY", "$timed", "$str"},
	} {
		for i, want := range []string{c.before, c.behind} {
			p := newTrial(t, someLimits())
			p.give(0, "str", api.KindString, "x")
			p.give(0, "timed", api.KindList, "2", "1")
			p.expire(0, "timed", 4000)
			p.sp.Random(1)
			p.m.random(1)
			p.advance(3999 + i)
			p.want(c.line, want)
		}
	}
	p := withKeys(t)
	p.advance(3000)
	p.want("EXISTS timed other", ":0")
	p.want("DBSIZE", ":5")
	p.want("KEYS *", "[$hash $list $set $str $zset]")
}
