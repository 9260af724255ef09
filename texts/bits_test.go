package texts

import (
	"fmt"
	"math"
	"strings"
	"testing"

	"cistern/api"
)

// TestP14_1Bits: GETBIT and SETBIT of each bit, of strings, of the empty one, of a key that is not there.
func TestP14_1Bits(t *testing.T) {
	for _, is := range []string{"", "SET k ''", "SET k \"\\x00\"", "SET k \"\\xff\"", "SET k ab", "SET k 12345"} {
		for at := range 44 {
			for _, bit := range []string{"0", "1"} {
				p := begun(t)
				if is != "" {
					p.want(is, "+OK")
				}
				was := p.ask("GETBIT", "k", fmt.Sprint(at))
				p.want(fmt.Sprintf("SETBIT k %d %s", at, bit), was)
				p.want(fmt.Sprintf("GETBIT k %d", at), ":"+bit)
				p.want(fmt.Sprintf("GETBIT k %d", at+1), p.peek(fmt.Sprintf("GETBIT k %d", at+1)))
				p.want(fmt.Sprintf("SETBIT k %d %s", at, bit), ":"+bit)
			}
		}
	}
	p := begun(t)
	p.want("SETBIT k 0 1", ":0")
	p.want("GET k", "$\x80")
	p.want("SETBIT k 15 1", ":0")
	p.want("GET k", "$\x80\x01")
	p.want("SETBIT k 0 0", ":1")
	p.want("GET k", "$\x00\x01")
	p.want("SETBIT k 16 0", ":0")
	p.want("GET k", "$\x00\x01\x00")
	p.want("SETBIT l 0 0", ":0")
	p.want("GET l", "$\x00")
	p.want("SETBIT m 23 0", ":0")
	p.want("GET m", "$\x00\x00\x00")
	mark := p.sp.Mark(0, "m")
	p.want("SETBIT m 23 0", ":0")
	if p.sp.Mark(0, "m") == mark {
		t.Errorf("a bit that was set to what it is: the mark stays")
	}
}

// TestP14_1BitEdges: the edges of N; bits that are neither 0 nor 1; the first of two that are wrong.
func TestP14_1BitEdges(t *testing.T) {
	p := begun(t)
	p.want("SET k ab", "+OK")
	p.give(0, "l", api.KindList)
	for _, n := range []string{"-1", least, greatest, fmt.Sprint(8 * api.MaxElement), fmt.Sprint(8*api.MaxElement + 1), "x", "", "01", "1.5", "9223372036854775808", "+1"} {
		for _, key := range []string{"k", "none", "l"} {
			p.refusesWords(noPlace, "GETBIT", key, n)
			p.refusesWords(noPlace, "SETBIT", key, n, "1")
			p.refusesWords(noPlace, "SETBIT", key, n, "2")
		}
	}
	for _, bit := range []string{"2", "-1", "", "x", "00", "01", "10", "+1", "1 ", "-0", "on", "\x00", "\x01"} {
		for _, key := range []string{"k", "none", "l"} {
			p.refusesWords(noBit, "SETBIT", key, "3", bit)
			p.refusesWords(noSought, "BITPOS", key, bit)
			p.refusesWords(noSought, "BITPOS", key, bit, "x")
			p.refusesWords(noSought, "BITPOS", key, bit, "0", "1", "word")
		}
	}
	last := fmt.Sprint(8*api.MaxElement - 1)
	p.want("GETBIT k "+last, ":0")
	p.want("GETBIT none "+last, ":0")
	p.want("GETBIT k 16", ":0")
	for _, key := range []string{"k", "new"} {
		sp := p.sp.Clone()
		if got := told(Do(sp, 0, []string{"SETBIT", key, last, "1"})); got != ":0" {
			t.Errorf("SETBIT %s %s 1: %s", key, last, got)
		}
		s := told(Do(sp, 0, []string{"GET", key}))[1:]
		if len(s) != api.MaxElement || s[len(s)-1] != 1 || strings.Count(s, "\x00") < api.MaxElement-3 {
			t.Errorf("SETBIT %s %s 1: %s", key, last, short(s))
		}
		for _, c := range []struct{ line, want string }{{"GETBIT " + key + " " + last, ":1"}, {"BITPOS " + key + " 1 -1", ":" + last}, {"SETBIT " + key + " " + last + " 0", ":1"}, {"STRLEN " + key, fmt.Sprint(":", api.MaxElement)}} {
			if got := told(Do(sp, 0, split(c.line))); got != c.want {
				t.Errorf("%s: %s; want %s", c.line, got, c.want)
			}
		}
	}
}

// stretches are the words that BITCOUNT may have behind its key, with places from far below to far above the end.
func stretches(of int, unit string) [][]string {
	var list [][]string
	for _, a := range ends(of) {
		for _, b := range ends(of) {
			words := []string{fmt.Sprint(a), fmt.Sprint(b)}
			if unit != "" {
				words = append(words, unit)
			}
			list = append(list, words)
		}
	}
	return list
}

// sought are the bits that words mean, by GETBITs of each: how many are 1, and the first that is 0 and 1.
func (p *trial) sought(a, b, of int, each int) (ones int, first [2]int) {
	first = [2]int{-1, -1}
	for _, i := range meant(a, b, of) {
		for j := i * each; j < (i+1)*each; j++ {
			bit := 0
			if told(Do(p.sp.Clone(), 0, []string{"GETBIT", "k", fmt.Sprint(j)})) == ":1" {
				bit = 1
			}
			ones += bit
			if first[bit] < 0 {
				first[bit] = j
			}
		}
	}
	return ones, first
}

// TestP14_1BitStretches: BITCOUNT and BITPOS with places from far below 0 to far above the end, on several strings.
func TestP14_1BitStretches(t *testing.T) {
	t.Parallel()
	for _, s := range []string{"", "\x00", "\xff", "a", "\xff\xff", "\x00\x01", "\xff\x7f", "a\x00\xff"} {
		p := begun(t)
		p.ask("SET", "k", s)
		for _, unit := range []string{"", "BYTE", "bit", "Byte", "BIT"} {
			of := len(s)
			if strings.EqualFold(unit, "bit") {
				of *= 8
			}
			for _, words := range stretches(of, unit) {
				p.ask(append([]string{"BITCOUNT", "k"}, words...)...)
				p.ask(append([]string{"BITPOS", "k", "0"}, words...)...)
				p.ask(append([]string{"BITPOS", "k", "1"}, words...)...)
			}
		}
		for _, a := range ends(len(s)) {
			p.ask("BITPOS", "k", "0", fmt.Sprint(a))
			p.ask("BITPOS", "k", "1", fmt.Sprint(a))
		}
	}
}

// TestP14_1BitsOneByOne: BITCOUNT and BITPOS held against GETBITs of each bit that is meant.
func TestP14_1BitsOneByOne(t *testing.T) {
	t.Parallel()
	p := begun(t)
	p.want("SET k \"\\x0f\\xff\\x00\"", "+OK")
	for _, unit := range []struct {
		word     string
		of, each int
	}{{"", 3, 8}, {"BYTE", 3, 8}, {"BIT", 24, 1}} {
		for a := -unit.of - 2; a < unit.of+2; a++ {
			for b := -unit.of - 2; b < unit.of+2; b++ {
				ones, first := p.sought(a, b, unit.of, unit.each)
				p.want(fmt.Sprintf("BITCOUNT k %d %d %s", a, b, unit.word), fmt.Sprint(":", ones))
				for bit, at := range first {
					p.want(fmt.Sprintf("BITPOS k %d %d %d %s", bit, a, b, unit.word), fmt.Sprint(":", at))
				}
			}
		}
	}
}

// TestP14_1BitPosZero: 0 in a string of bytes of 255 alone, with B and without; a string that is empty, or not there.
func TestP14_1BitPosZero(t *testing.T) {
	p := begun(t)
	p.want("SET k \"\\xff\\xff\\xff\"", "+OK")
	p.want("SET e ''", "+OK")
	p.want("SET z \"\\x00\\x00\"", "+OK")
	for line, want := range map[string]int{
		"k 0": 24, "k 0 0": 24, "k 0 1": 24, "k 0 -1": 24, "k 0 2": 24, "k 0 -9": 24, "k 0 3": -1, "k 0 99": -1, "k 0 0 -1": -1, "k 0 0 2": -1, "k 0 0 99": -1, "k 0 0 -1 BYTE": -1, "k 0 0 -1 BIT": -1, "k 0 0 99 bit": -1, "k 0 2 1": -1,
		"k 1": 0, "k 1 1": 8, "k 1 -1": 16, "k 1 3": -1, "k 1 5 9 BIT": 5, "k 1 -1 -1 BIT": 23, "k 1 2 1": -1,
		"e 0": -1, "e 0 0": -1, "e 0 0 -1": -1, "e 0 0 -1 BIT": -1, "e 1": -1, "e 1 0 -1": -1,
		"none 0": 0, "none 0 5": 0, "none 0 5 1": 0, "none 0 0 -1 BIT": 0, "none 1": -1, "none 1 0 -1": -1, "none 1 0 -1 BYTE": -1,
		"z 0": 0, "z 0 1": 8, "z 0 2": -1, "z 1": -1, "z 1 1": -1, "z 1 0 -1 BIT": -1, "z 0 9 9 BIT": 9,
	} {
		p.want("BITPOS "+line, fmt.Sprint(":", want))
	}
}

// TestP14_1BitWords: words that can't be, ahead of numbers, of the key's kind.
func TestP14_1BitWords(t *testing.T) {
	p := begun(t)
	p.want("SET k ab", "+OK")
	p.give(0, "l", api.KindHash)
	for _, key := range []string{"k", "none", "l"} {
		p.refuses("BITCOUNT "+key+" 0", syntax)
		p.refuses("BITCOUNT "+key+" x", syntax)
		for _, word := range []string{"BITS", "''", "B", "BYTES", "0", "b\u0131t", "BYTE\u0130"} {
			p.refuses("BITCOUNT "+key+" 0 1 "+word, syntax)
			p.refuses("BITCOUNT "+key+" x 1 "+word, syntax)
			p.refuses("BITPOS "+key+" 1 0 1 "+word, syntax)
			p.refuses("BITPOS "+key+" 1 0 x "+word, syntax)
		}
		for _, unit := range []string{"", "BYTE", "BIT"} {
			p.refuses("BITCOUNT "+key+" x 1 "+unit, noNumber)
			p.refuses("BITCOUNT "+key+" 1 x "+unit, noNumber)
			p.refuses("BITPOS "+key+" 1 x 1 "+unit, noNumber)
			p.refuses("BITPOS "+key+" 1 1 x "+unit, noNumber)
		}
		p.refuses("BITPOS "+key+" 1 x", noNumber)
	}
}

// TestP14_4Bits: SETBIT and then GETBIT is the bit; BITCOUNT is the sum of all GETBITs.
func TestP14_4Bits(t *testing.T) {
	t.Parallel()
	m := mix(21)
	p := begun(t)
	ones := map[int]int{}
	for range 400 {
		at, bit := m.below(200), m.below(2)
		ones[at] = bit
		p.ask("SETBIT", "k", fmt.Sprint(at), fmt.Sprint(bit))
		p.want(fmt.Sprintf("GETBIT k %d", at), fmt.Sprint(":", bit))
		sum, all := 0, 0
		for _, one := range ones {
			sum += one
		}
		for i := range 210 {
			if told(Do(p.sp.Clone(), 0, []string{"GETBIT", "k", fmt.Sprint(i)})) == ":1" {
				all++
			}
		}
		if got := p.ask("BITCOUNT", "k"); got != fmt.Sprint(":", sum) || all != sum {
			t.Fatalf("BITCOUNT: %s; GETBITs %d; set %d", got, all, sum)
		}
	}
}

// TestP14_1BitOp: strings of several lengths, keys that are not there, dest among the keys, an empty result.
func TestP14_1BitOp(t *testing.T) {
	for _, c := range []struct{ line, told, then string }{
		{"AND d a b", ":3", "\x00\x33\x00"}, {"OR d a b", ":3", "\x0f\xff\x55"}, {"XOR d a b", ":3", "\x0f\xcc\x55"}, {"NOT d a", ":3", "\xf0\x00\xaa"}, {"NOT d b", ":2", "\xff\xcc"},
		{"and d b a", ":3", "\x00\x33\x00"}, {"Or d b a", ":3", "\x0f\xff\x55"}, {"xOR d b a", ":3", "\x0f\xcc\x55"}, {"not d a", ":3", "\xf0\x00\xaa"},
		{"AND d a", ":3", "\x0f\xff\x55"}, {"OR d a", ":3", "\x0f\xff\x55"}, {"XOR d a", ":3", "\x0f\xff\x55"}, {"XOR d a a", ":3", "\x00\x00\x00"}, {"XOR d a a a", ":3", "\x0f\xff\x55"}, {"AND d a a", ":3", "\x0f\xff\x55"}, {"AND d a a b", ":3", "\x00\x33\x00"},
		{"AND d a none", ":3", "\x00\x00\x00"}, {"AND d none a", ":3", "\x00\x00\x00"}, {"OR d none b", ":2", "\x00\x33"}, {"XOR d b none e", ":2", "\x00\x33"}, {"OR d e a", ":3", "\x0f\xff\x55"}, {"AND d e e b", ":2", "\x00\x00"},
		{"AND a a b", ":3", "\x00\x33\x00"}, {"OR b a b", ":3", "\x0f\xff\x55"}, {"NOT a a", ":3", "\xf0\x00\xaa"}, {"XOR b b b", ":2", "\x00\x00"}, {"AND n a", ":3", "\x0f\xff\x55"},
	} {
		p := begun(t)
		p.want("MSET a \"\\x0f\\xff\\x55\" b \"\\x00\\x33\" e ''", "+OK")
		p.want("BITOP "+c.line, c.told)
		p.want("GET "+split(c.line)[1], "$"+c.then)
	}
}

// TestP14_1BitOpDest: dest is of any kind, is not looked at, and goes by an empty result.
func TestP14_1BitOpDest(t *testing.T) {
	for _, b := range before {
		p := begun(t)
		b.give(p)
		p.want("MSET a x e ''", "+OK")
		p.want("BITOP OR k a a", ":1")
		p.want("GET k", "$x")
		for _, empty := range []string{"AND k none", "OR k e", "XOR k e none", "NOT k e", "NOT k none", "AND e e", "OR none none"} {
			p := begun(t)
			b.give(p)
			p.want("MSET a x e ''", "+OK")
			p.want("BITOP "+empty, ":0")
			if _, there := p.sp.Peek(0, split(empty)[1]); there {
				t.Errorf("%s, %s: dest is there", b.name, empty)
			}
		}
	}
}

// TestP14_1BitOpErrors: the word, then NOT of several keys, then the kinds; up to the first of the wrong kind the keys are looked at.
func TestP14_1BitOpErrors(t *testing.T) {
	p := begun(t)
	p.want("MSET a x b y", "+OK")
	p.give(0, "l", api.KindList)
	p.give(0, "d", api.KindSet)
	for _, word := range []string{"", "NAND", "ANDOR", "AN", "DIFF", "\u00d6R", "1", "NOT "} {
		p.refusesWords(syntax, "BITOP", word, "d", "a")
		p.refusesWords(syntax, "BITOP", word, "d", "a", "l")
	}
	p.refuses("BITOP NOT d a b", oneKey)
	p.refuses("BITOP NOT d l a", oneKey)
	p.refuses("BITOP not d a a", oneKey)
	p.refuses("BITOP NOT d l", wrongType)
	idle := p.sp.Idle(0, "b")
	for _, word := range []string{"AND", "OR", "XOR"} {
		p.refuses("BITOP "+word+" d a l b", wrongType)
		p.refuses("BITOP "+word+" d d", wrongType)
		p.refuses("BITOP "+word+" none none l", wrongType)
	}
	if got := p.sp.Idle(0, "b"); got != idle+3*4 {
		t.Errorf("idle of a key behind the wrong one: %d; want %d", got, idle+12)
	}
	p.refusesWords(tooLarge, "BITOP", "OR", strings.Repeat("d", api.MaxKey+1), "a")
	p.ask("BITOP", "OR", strings.Repeat("d", api.MaxKey+1), "none")
	most := strings.Repeat("\xff", api.MaxElement)
	p.ask("SET", "most", most)
	for line, want := range map[string]string{"NOT d most": strings.Repeat("\x00", api.MaxElement), "OR d a most": most, "AND d most most": most} {
		sp := p.sp.Clone()
		if got := told(Do(sp, 0, split("BITOP "+line))); got != fmt.Sprint(":", api.MaxElement) || told(Do(sp, 0, split("GET d"))) != "$"+want {
			t.Errorf("BITOP %s: %s", line, got)
		}
	}
	if got := p.ask("BITCOUNT", "a", fmt.Sprint(math.MinInt), fmt.Sprint(math.MaxInt)); got != ":4" {
		t.Errorf("BITCOUNT of all: %s", got)
	}
}
