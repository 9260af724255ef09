package texts

import (
	"fmt"
	"math"
	"strings"
	"testing"

	"cistern/api"
)

const (
	least    = "-9223372036854775808"
	greatest = "9223372036854775807"
)

// noNumbers are texts that are no number's.
func noNumbers() []string {
	return []string{"", " ", "x", "1x", "x1", "+1", "01", "-0", "00", "1.0", "1e3", " 1", "1 ", "1\n", "0x1", "--1", "-", "9223372036854775808", "-9223372036854775809", "18446744073709551616", "1\x00", "\xff", "١", "1_0", strings.Repeat("1", 5000)}
}

// TestP14_1Ends: sums at both ends of 64 bits and beyond.
func TestP14_1Ends(t *testing.T) {
	for _, c := range []struct{ is, line, want string }{
		{greatest, "INCR k", "-" + noSum}, {"9223372036854775806", "INCR k", ":" + greatest}, {greatest, "DECR k", ":9223372036854775806"}, {greatest, "INCRBY k 0", ":" + greatest}, {greatest, "INCRBY k -1", ":9223372036854775806"},
		{least, "DECR k", "-" + noSum}, {"-9223372036854775807", "DECR k", ":" + least}, {least, "INCR k", ":-9223372036854775807"}, {least, "DECRBY k 0", ":" + least}, {least, "DECRBY k -1", ":-9223372036854775807"},
		{least, "INCRBY k " + greatest, ":-1"}, {least, "INCRBY k " + least, "-" + noSum}, {greatest, "INCRBY k " + greatest, "-" + noSum}, {greatest, "INCRBY k " + least, ":-1"}, {"0", "INCRBY k " + least, ":" + least}, {"-1", "INCRBY k " + least, "-" + noSum}, {"1", "INCRBY k " + greatest, "-" + noSum}, {"1", "INCRBY k 9223372036854775806", ":" + greatest},
		{greatest, "DECRBY k " + greatest, ":0"}, {"-1", "DECRBY k " + greatest, ":" + least}, {"-2", "DECRBY k " + greatest, "-" + noSum}, {"0", "DECRBY k -" + greatest, ":" + greatest}, {"1", "DECRBY k -" + greatest, "-" + noSum},
		{"0", "DECRBY k " + least, "-" + noNegate}, {"-1", "DECRBY k " + least, "-" + noNegate}, {"x", "DECRBY k " + least, "-" + noNegate}, {greatest, "DECRBY k " + least, "-" + noNegate},
		{"0", "DECR k", ":-1"}, {"-1", "INCR k", ":0"}, {"10", "DECR k", ":9"}, {"-10", "INCR k", ":-9"}, {"99", "INCR k", ":100"},
	} {
		p := begun(t)
		p.want("SET k "+c.is, "+OK")
		if text, wrong := strings.CutPrefix(c.want, "-"); wrong {
			p.refuses(c.line, text)
			continue
		}
		p.want(c.line, c.want)
		p.want("GET k", "$"+c.want[1:])
	}
}

// TestP14_1NotThere: a key that is not there counts as 0, and is made.
func TestP14_1NotThere(t *testing.T) {
	for line, want := range map[string]string{"INCR k": "1", "DECR k": "-1", "INCRBY k 7": "7", "DECRBY k 7": "-7", "INCRBY k 0": "0", "INCRBY k " + least: least, "INCRBY k " + greatest: greatest, "DECRBY k " + greatest: "-" + greatest, "DECRBY k -" + greatest: greatest} {
		p := begun(t)
		p.want(line, ":"+want)
		p.want("GET k", "$"+want)
	}
	p := begun(t)
	p.refuses("DECRBY k "+least, noNegate)
	p.want("GET k", "_")
}

// TestP14_1NoNumbers: strings and words that are no numbers' texts.
func TestP14_1NoNumbers(t *testing.T) {
	for _, word := range noNumbers() {
		p := begun(t)
		p.want("SET n 5", "+OK")
		p.ask("SET", "k", word)
		for _, line := range []string{"INCR k", "DECR k", "INCRBY k 1", "DECRBY k 1", "INCRBY k 0"} {
			p.refuses(line, noNumber)
		}
		for _, name := range []string{"INCRBY", "DECRBY"} {
			p.refusesWords(noNumber, name, "n", word)
			p.refusesWords(noNumber, name, "none", word)
		}
		p.refusesWords(noNumber, "GETRANGE", "n", word, "1")
		p.refusesWords(noNumber, "GETRANGE", "n", "1", word)
		p.refusesWords(noNumber, "SETRANGE", "n", word, "x")
		p.refusesWords(noNumber, "BITCOUNT", "n", word, "1")
		p.refusesWords(noNumber, "BITCOUNT", "n", "1", word, "BIT")
		p.refusesWords(noNumber, "BITPOS", "n", "1", word)
		p.refusesWords(noNumber, "BITPOS", "n", "0", "1", word)
		p.refusesWords(noNumber, "BITPOS", "none", "0", word, "1", "BIT")
		p.refusesWords(noPlace, "GETBIT", "n", word)
		p.refusesWords(noPlace, "SETBIT", "n", word, "1")
		p.refusesWords(noNumber, "SETEX", "n", word, "1")
		p.refusesWords(noNumber, "PSETEX", "n", word, "1")
		for _, option := range []string{"EX", "PX", "EXAT", "PXAT"} {
			p.refusesWords(noNumber, "SET", "n", "v", option, word)
			p.refusesWords(noNumber, "GETEX", "n", option, word)
		}
	}
}

// TestP14_4IncrBy: by N and then by -N leaves the string as it was, with its expiry.
func TestP14_4IncrBy(t *testing.T) {
	numbers := []int{0, 1, -1, 9, 10, -10, 99, 1 << 31, -1 << 31, math.MaxInt - 1, math.MaxInt, -math.MaxInt, math.MinInt}
	for _, is := range numbers {
		for _, n := range numbers {
			if n == math.MinInt {
				continue
			}
			p := begun(t)
			p.want(fmt.Sprintf("SET k %d PX 99", is), "+OK")
			if got := p.ask("INCRBY", "k", fmt.Sprint(n)); got == "-"+noSum {
				continue
			}
			p.want(fmt.Sprintf("INCRBY k %d", -n), fmt.Sprint(":", is))
			p.want("GET k", fmt.Sprint("$", is))
			p.want(fmt.Sprintf("INCRBY k %d", n), fmt.Sprint(":", is+n))
			p.want(fmt.Sprintf("DECRBY k %d", n), fmt.Sprint(":", is))
			if due, _ := p.sp.Expiry(0, "k"); due != 1099 {
				t.Errorf("due %d", due)
			}
		}
	}
}

// TestP14_1Length: STRLEN and APPEND, up to MaxElement and one byte more.
func TestP14_1Length(t *testing.T) {
	most := strings.Repeat("v", api.MaxElement)
	p := begun(t)
	p.want("STRLEN k", ":0")
	p.want("APPEND k ''", ":0")
	p.want("GET k", "$")
	p.want("APPEND k ab", ":2")
	p.want("APPEND k \"\\x00\\xff\"", ":4")
	p.want("STRLEN k", ":4")
	p.want("GET k", "$ab\x00\xff")
	p.want("APPEND k ''", ":4")
	p.want("APPEND n 1", ":1")
	p.want("APPEND n 2", ":2")
	p.want("INCR n", ":13")
	if got := p.ask("APPEND", "new", most); got != fmt.Sprint(":", api.MaxElement) {
		t.Errorf("APPEND of MaxElement bytes: %s", got)
	}
	p.want("STRLEN new", fmt.Sprint(":", api.MaxElement))
	p.refuses("APPEND new x", tooLong)
	p.refusesWords(tooLong, "APPEND", "new", most)
	p.want("APPEND new ''", fmt.Sprint(":", api.MaxElement))
	p.refusesWords(tooLong, "APPEND", "k", most[3:])
	if got := p.ask("APPEND", "k", most[4:]); got != fmt.Sprint(":", api.MaxElement) {
		t.Errorf("APPEND up to MaxElement bytes: %s", got)
	}
	p.refusesWords(tooLarge, "APPEND", "none", most+"v")
	p.refusesWords(tooLarge, "APPEND", strings.Repeat("k", api.MaxKey+1), "v")
	p.refusesWords(tooLong, "APPEND", "n", most+"v")
}
