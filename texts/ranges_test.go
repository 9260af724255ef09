package texts

import (
	"fmt"
	"math"
	"strings"
	"testing"

	"cistern/api"
)

// ends are places from far below 0 to far above the end of a string of so many places.
func ends(of int) []int {
	list := []int{math.MinInt, math.MinInt + 1, -1 << 40, math.MaxInt, math.MaxInt - 1, 1 << 40}
	for i := -of - 3; i <= of+3; i++ {
		list = append(list, i)
	}
	return list
}

// meant tells which of so many places lie from a to b, by the chapter's words, each place looked at alone.
func meant(a, b, of int) []int {
	if a < 0 && b < 0 && a > b {
		return nil
	}
	var list []int
	for i := range of {
		behindA := i >= a && (a >= 0 || i-of >= a)
		aheadOfB := b >= 0 && i <= b || b < 0 && i-of <= b || b < 0 && b < -of && i == 0
		if behindA && aheadOfB {
			list = append(list, i)
		}
	}
	return list
}

// TestP14_1GetRange: all places of strings of up to five bytes, the empty one among them.
func TestP14_1GetRange(t *testing.T) {
	for of := range 6 {
		p := begun(t)
		s := "ab\x00\xffe"[:of]
		p.ask("SET", "k", s)
		for _, a := range ends(of) {
			for _, b := range ends(of) {
				want := ""
				for _, i := range meant(a, b, of) {
					want += s[i : i+1]
				}
				p.want(fmt.Sprintf("GETRANGE k %d %d", a, b), "$"+want)
			}
		}
	}
	p := begun(t)
	p.want("SET k hello", "+OK")
	for line, want := range map[string]string{"0 -1": "hello", "1 3": "ell", "-3 -1": "llo", "-1 -3": "", "3 1": "", "2 2": "l", "-5 0": "h", "-6 0": "h", "-9 -5": "h", "-9 -6": "h", "-9 -9": "h", "-5 -6": "", "5 9": "", "4 99": "o", "0 4": "hello", "0 5": "hello"} {
		p.want("GETRANGE k "+line, "$"+want)
	}
	p.want("GETRANGE none 0 -1", "$")
	p.want("SET one x", "+OK")
	p.want("GETRANGE one -1 -2", "$")
	p.want("GETRANGE one 0 -2", "$x")
	p.want("GETRANGE one -2 -2", "$x")
}

// TestP14_1SetRange: within, at and behind the end; the empty value; a key that is not there.
func TestP14_1SetRange(t *testing.T) {
	for _, c := range []struct{ is, line, told, then string }{
		{"hello", "1 ipp", ":5", "hippo"}, {"hello", "5 !", ":6", "hello!"}, {"hello", "4 wxyz", ":8", "hellwxyz"}, {"hello", "7 x", ":8", "hello\x00\x00x"}, {"hello", "0 H", ":5", "Hello"}, {"hello", "0 longer", ":6", "longer"}, {"", "0 x", ":1", "x"}, {"", "2 x", ":3", "\x00\x00x"},
		{"12", "1 3", ":2", "13"}, {"12", "2 3", ":3", "123"}, {"hello", "3 ''", ":5", "hello"}, {"hello", "99999999999 ''", ":5", "hello"}, {"hello", "0 \"\\x00\\xff\"", ":5", "\x00\xffllo"}, {"", "5 ''", ":0", ""},
	} {
		p := begun(t)
		p.ask("SET", "k", c.is)
		p.want("SETRANGE k "+c.line, c.told)
		p.want("GET k", "$"+c.then)
	}
	p := begun(t)
	p.want("SETRANGE k 0 ''", ":0")
	p.want("SETRANGE k 9223372036854775807 ''", ":0")
	p.want("GET k", "_")
	p.want("SETRANGE k 3 x", ":4")
	p.want("GET k", "$\x00\x00\x00x")
	p.want("SETRANGE l 0 ab", ":2")
	p.want("GET l", "$ab")
	p.want("SET m v", "+OK")
	mark := p.sp.Mark(0, "m")
	p.want("SETRANGE m 0 ''", ":1")
	if p.sp.Mark(0, "m") != mark {
		t.Errorf("the empty value changed the key")
	}
}

// TestP14_1SetRangeMost: at MaxElement and one byte more, and far beyond.
func TestP14_1SetRangeMost(t *testing.T) {
	most := strings.Repeat("v", api.MaxElement)
	for _, is := range []string{"", "SET k x", "SET k " + strings.Repeat("y", 50)} {
		p := begun(t)
		if is != "" {
			p.want(is, "+OK")
		}
		for _, at := range []int{api.MaxElement, api.MaxElement + 1, 1 << 40, math.MaxInt - 1, math.MaxInt} {
			p.refuses(fmt.Sprintf("SETRANGE k %d x", at), tooLong)
		}
		p.refuses(fmt.Sprintf("SETRANGE k %d xy", api.MaxElement-1), tooLong)
		p.refusesWords(tooLong, "SETRANGE", "k", "1", most)
		p.refusesWords(tooLong, "SETRANGE", "k", "0", most+"v")
		p.refusesWords(tooLong, "SETRANGE", "k", greatest, most+"v")
		p.want(fmt.Sprintf("SETRANGE k %d x", api.MaxElement-1), fmt.Sprint(":", api.MaxElement))
		p.want(fmt.Sprintf("GETRANGE k %d -1", api.MaxElement-2), "$\x00x")
		if got := p.ask("SETRANGE", "k", "0", most); got != fmt.Sprint(":", api.MaxElement) {
			t.Errorf("MaxElement bytes: %s", got)
		}
		for _, n := range []string{"-1", "-2", least} {
			p.refusesWords(noOffset, "SETRANGE", "k", n, "x")
			p.refusesWords(noOffset, "SETRANGE", "k", n, "")
			p.refusesWords(noOffset, "SETRANGE", "none", n, most+"v")
		}
	}
	p := begun(t)
	p.refusesWords(tooLarge, "SETRANGE", strings.Repeat("k", api.MaxKey+1), "0", "x")
}

// TestP14_4Ranges: GETRANGE of 0 and -1 is GET; SETRANGE and then GETRANGE of the same place is the value.
func TestP14_4Ranges(t *testing.T) {
	m := mix(9)
	p := begun(t)
	for range 2000 {
		key := pick(&m, "a", "b", "c")
		at, text := m.below(60), strings.Repeat(pick(&m, "x", "\x00", "\xff", "7"), 1+m.below(9))
		if m.below(5) == 0 {
			p.ask("SET", key, pick(&m, "", "x", strings.Repeat("z", m.below(70))))
		}
		size := p.ask("SETRANGE", key, fmt.Sprint(at), text)
		p.want(fmt.Sprintf("GETRANGE %s %d %d", key, at, at+len(text)-1), "$"+text)
		if all := p.ask("GETRANGE", key, "0", "-1"); all != p.ask("GET", key) || fmt.Sprint(":", len(all)-1) != size {
			t.Errorf("GETRANGE of all: %q, of %s bytes", all, size)
		}
	}
}
