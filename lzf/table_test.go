package lzf

import (
	"strconv"
	"strings"
	"testing"

	"cistern/api"
)

// TestL2Finds: what a text that stands twice is found by: the last place with the same three bytes, however many others share its bucket.
func TestL2Finds(t *testing.T) {
	for name, half := range halves(4000) {
		s := half + half + half
		tb := newTable(s)
		last := map[string]int{}
		for i := range len(s) - 2 {
			three := s[i : i+3]
			place, there := last[three]
			there = there && i-place <= 8192
			back, ok := tb.find(i)
			if ok != there || ok && back != i-place || !ok && back != 0 {
				t.Fatalf("%s, place %d: %d, %v; last seen at %d, %v", name, i, back, ok, place, there)
			}
			tb.note(i)
			last[three] = i
		}
	}
}

// TestL2Spread: few places share a bucket, so that a search is short.
func TestL2Spread(t *testing.T) {
	m := mix(43)
	var numbers, words strings.Builder
	for i := 0; numbers.Len() < api.MaxElement; i++ {
		numbers.WriteString(strconv.Itoa(i * 7919))
		words.WriteString("word" + m.text(3, 256))
	}
	for name, s := range map[string]string{
		"mixed":   m.text(api.MaxElement, 256),
		"numbers": numbers.String(),
		"words":   words.String(),
		"few":     m.text(100, 256),
	} {
		tb := newTable(s)
		threes := map[string]int{}
		places := map[uint32]int{}
		for i := range len(s) - 2 {
			if threes[s[i:i+3]]++; threes[s[i:i+3]] == 1 {
				places[tb.bucket(i)]++
			}
		}
		crowd := 0
		for _, n := range places {
			crowd = max(crowd, n)
		}
		if crowd > 64 {
			t.Errorf("%s: %d kinds of three bytes share a bucket", name, crowd)
		}
	}
}

// TestL2Pieces: runs and copies are as long as the form lets them be.
func TestL2Pieces(t *testing.T) {
	m := mix(47)
	base := m.text(300, 256)
	for _, c := range []struct{ name, s, want string }{
		{"nothing", "", ""},
		{"a run of one", "a", run("a")},
		{"a run of 32", base[:32], run(base[:32])},
		{"a run of 33", base[:33], run(base[:32]) + run(base[32:33])},
		{"a copy of the last three bytes", "abcdefgabc", run("abcdefg") + copyOf(3, 7)},
		{"two bytes are no copy", "abcdefgab", run("abcdefgab")},
		{"a copy of 8", base[:8] + base[:8], run(base[:8]) + copyOf(8, 8)},
		{"a copy of 9", base[:9] + base[:9], run(base[:9]) + long(9, 9)},
		{"a copy of 264", strings.Repeat("a", 265), run("a") + long(264, 1)},
		{"a copy of 264 and a run", strings.Repeat("a", 266), run("a") + long(264, 1) + run("a")},
		{"a copy of 264 and one of 3", strings.Repeat("a", 268), run("a") + long(264, 1) + copyOf(3, 1)},
		{"from 256 ahead", base[:256] + base[:256], runs(base[:256]) + long(256, 256)},
		{"from 257 ahead", base[:257] + base[:257], runs(base[:257]) + long(257, 257)},
		{"a run between copies", "abcabcxabc", run("abc") + copyOf(3, 3) + run("x") + copyOf(3, 4)},
	} {
		if got := string(pieces(c.s)); got != c.want {
			t.Errorf("%s: %q; want %q", c.name, got, c.want)
		}
	}
}
