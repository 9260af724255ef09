package lists

import (
	"fmt"
	"math"
	"strings"
	"testing"

	"cistern/api"
)

// ends are places from far below 0 to far above the end of so many places.
func ends(of int) []int {
	list := []int{math.MinInt, math.MinInt + 1, -1 << 40, math.MaxInt, math.MaxInt - 1, 1 << 40}
	for i := -of - 3; i <= of+3; i++ {
		list = append(list, i)
	}
	return list
}

// ofLetters is a trial whose key k is a list of the first letters (none: not there), with an expiry.
func ofLetters(t *testing.T, n int) *trial {
	t.Helper()
	p := begun(t)
	for i := range n {
		p.ask("RPUSH", "k", "abcdefgh"[i:i+1])
	}
	p.expire(0, "k", 5000)
	return p
}

// TestLI1Index: LINDEX and LSET with indexes from far below 0 to far above the end.
func TestLI1Index(t *testing.T) {
	for n := range 7 {
		for _, i := range ends(n) {
			p := ofLetters(t, n)
			at := i
			if i < 0 {
				at = n + i
			}
			there := at >= 0 && at < n
			want := "_"
			if there {
				want = "$" + "abcdefgh"[at:at+1]
			}
			p.keeps(want, "LINDEX", "k", fmt.Sprint(i))
			switch {
			case n == 0:
				p.refuses(fmt.Sprint("LSET k ", i, " x"), noKey)
			case !there:
				p.refuses(fmt.Sprint("LSET k ", i, " x"), noIndex)
			default:
				p.want(fmt.Sprint("LSET k ", i, " 'a longer one'"), "+OK")
				p.want(fmt.Sprint("LINDEX k ", i), "$a longer one")
				p.want(fmt.Sprint("LSET k ", i, " x"), "+OK")
				b := []byte("abcdefgh"[:n])
				b[at] = 'x'
				p.holds("k", strings.Join(strings.Split(string(b), ""), " "))
			}
		}
	}
	p := withLists(t)
	for _, word := range noNumbers() {
		p.refusesWords(noNumber, "LINDEX", "s", word)
		p.refusesWords(noNumber, "LSET", "s", word, "x")
		p.refusesWords(noNumber, "LSET", "none", word, "x")
	}
	p.wantWords("+OK", "LSET", "s", "1", strings.Repeat("m", api.MaxElement))
	p.refusesWords(tooLarge, "LSET", "s", "1", strings.Repeat("m", api.MaxElement+1))
	p.want("LSET s 0 a", "+OK") // worked on, even if it is the same
}

// works asks a line of words by which the list under k, that expires at 5000, is worked on, or is not; then it holds these entries.
func (p *trial) works(words, want, left string, changes bool) {
	p.t.Helper()
	mark := p.sp.Mark(0, "k")
	p.want(words, want)
	p.holds("k", left)
	if at, ok := p.sp.Expiry(0, "k"); at != 5000 || !ok {
		p.t.Errorf("%s: the expiry is %d, %v", words, at, ok)
	}
	if changed := p.sp.Mark(0, "k") != mark; changed != changes {
		p.t.Errorf("%s: changed is %v", words, changed)
	}
}

// TestLI1Insert: ahead of and behind a pivot at every place, one that is there twice, and one that is not.
func TestLI1Insert(t *testing.T) {
	for _, c := range []struct{ line, want, left string }{
		{"LINSERT k BEFORE a x", ":5", "x a b a c"}, {"LINSERT k AFTER a x", ":5", "a x b a c"}, {"LINSERT k before b x", ":5", "a x b a c"}, {"LINSERT k after b x", ":5", "a b x a c"},
		{"LINSERT k BeFoRe c x", ":5", "a b a x c"}, {"LINSERT k aFTEr c x", ":5", "a b a c x"}, {"LINSERT k BEFORE a a", ":5", "a a b a c"}, {"LINSERT k AFTER c c", ":5", "a b a c c"}, {"LINSERT k AFTER c longer-than-8", ":5", "a b a c longer-than-8"},
		{"LINSERT k BEFORE z x", ":-1", "a b a c"}, {"LINSERT k AFTER '' x", ":-1", "a b a c"}, {"LINSERT k AFTER A x", ":-1", "a b a c"}, {"LINSERT none AFTER a x", ":0", "a b a c"},
	} {
		p := begun(t)
		p.want("RPUSH k a b a c", ":4")
		p.expire(0, "k", 5000)
		p.works(c.line, c.want, c.left, c.want == ":5")
	}
	p := withLists(t)
	for _, word := range []string{"", "BEFORE ", "BEFOR", "AFTERR", "LEFT", "0", "BEFOREAFTER", "AHEAD"} {
		for _, key := range []string{"s", "none"} {
			p.refusesWords(syntax, "LINSERT", key, word, "a", "x")
		}
	}
	over := strings.Repeat("o", api.MaxElement+1)
	p.refusesWords(tooLarge, "LINSERT", "s", "BEFORE", "a", over)
	p.keeps(":-1", "LINSERT", "s", "BEFORE", "z", over)
	p.keeps(":0", "LINSERT", "none", "BEFORE", "z", over)
	p.keeps(":-1", "LINSERT", "s", "BEFORE", over, "x")
	p.wantWords(":4", "LINSERT", "s", "AFTER", "c", over[:api.MaxElement])
	p.wantWords(":5", "LINSERT", "s", "BEFORE", over[:api.MaxElement], "x")
}

// TestLI1Ranges: LRANGE and LTRIM of all places of lists of up to five entries.
func TestLI1Ranges(t *testing.T) {
	for n := range 6 {
		for _, a := range ends(n) {
			for _, b := range ends(n) {
				p := ofLetters(t, n)
				var part, all []string
				for i := range n {
					letter := "abcdefgh"[i : i+1]
					all = append(all, letter)
					if within(i, a, b, n) {
						part = append(part, letter)
					}
				}
				words := []string{"LRANGE", "k", fmt.Sprint(a), fmt.Sprint(b)}
				want := "[]"
				if len(part) > 0 {
					want = "[$" + strings.Join(part, " $") + "]"
				}
				p.keeps(want, words...)
				p.holds("k", strings.Join(all, " "))
				words[0] = "LTRIM"
				mark := p.sp.Mark(0, "k")
				p.wantWords("+OK", words...)
				p.holds("k", strings.Join(part, " "))
				if len(part) > 0 && p.sp.Mark(0, "k") == mark {
					t.Errorf("%q: the list was worked on, and has the mark of old", words)
				}
				if at, ok := p.sp.Expiry(0, "k"); ok != (len(part) > 0) || ok && at != 5000 {
					t.Errorf("%q: the expiry is %d, %v", words, at, ok)
				}
			}
		}
	}
	p := withLists(t)
	for _, word := range noNumbers() {
		for _, name := range []string{"LRANGE", "LTRIM"} {
			p.refusesWords(noNumber, name, "s", word, "1")
			p.refusesWords(noNumber, name, "s", "1", word)
			p.refusesWords(noNumber, name, "none", word, word)
		}
	}
	p.keeps("+OK", "LTRIM", "none", "0", "-1")
	p.keeps("[]", "LRANGE", "none", "0", "-1")
}

// within tells whether one of so many places lies from a to b, by the words of chapter 14.
func within(i, a, b, of int) bool {
	if a < 0 && b < 0 && a > b {
		return false
	}
	behindA := i >= a && (a >= 0 || i-of >= a)
	aheadOfB := b >= 0 && i <= b || b < 0 && i-of <= b || b < 0 && b < -of && i == 0
	return behindA && aheadOfB
}

// TestLI1Remove: from the front, from the back, all; more than there are; none.
func TestLI1Remove(t *testing.T) {
	for _, c := range []struct{ line, want, left string }{
		{"LREM k 0 a", ":3", "b b c"}, {"LREM k 1 a", ":1", "b a b a c"}, {"LREM k 2 a", ":2", "b b a c"}, {"LREM k 3 a", ":3", "b b c"}, {"LREM k 4 a", ":3", "b b c"}, {"LREM k " + greatest + " a", ":3", "b b c"},
		{"LREM k -1 a", ":1", "a b a b c"}, {"LREM k -2 a", ":2", "a b b c"}, {"LREM k -3 a", ":3", "b b c"}, {"LREM k -4 a", ":3", "b b c"}, {"LREM k " + least + " a", ":3", "b b c"}, {"LREM k -9223372036854775807 a", ":3", "b b c"},
		{"LREM k 1 b", ":1", "a a b a c"}, {"LREM k -1 b", ":1", "a b a a c"}, {"LREM k 0 c", ":1", "a b a b a"}, {"LREM k -1 c", ":1", "a b a b a"},
		{"LREM k 0 z", ":0", "a b a b a c"}, {"LREM k 2 z", ":0", "a b a b a c"}, {"LREM k -2 ''", ":0", "a b a b a c"}, {"LREM k 0 A", ":0", "a b a b a c"}, {"LREM none 0 a", ":0", "a b a b a c"},
	} {
		p := begun(t)
		p.want("RPUSH k a b a b a c", ":6")
		p.expire(0, "k", 5000)
		p.works(c.line, c.want, c.left, c.want != ":0")
	}
	p := withLists(t)
	for _, word := range noNumbers() {
		p.refusesWords(noNumber, "LREM", "s", word, "a")
		p.refusesWords(noNumber, "LREM", "none", word, "a")
	}
	for _, n := range []string{"0", "2", "9", "-2", "-9"} {
		p.want("RPUSH all x x", ":2")
		p.expire(0, "all", 5000)
		p.want("LREM all "+n+" x", ":2")
		p.holds("all", "")
	}
	p.want("RPUSH all x x", ":2")
	if at, _ := p.sp.Expiry(0, "all"); at != -1 {
		t.Errorf("the expiry of a list that went came back: %d", at)
	}
}
