package command

import (
	"errors"
	"math"
	"slices"
	"testing"

	"cistern/api"
)

// told is an error's text; empty, if there is none.
func told(err error) string {
	if err == nil {
		return ""
	}
	return err.Error()
}

// TestFault: what a client is told of an Errno.
func TestFault(t *testing.T) {
	for e, want := range map[api.Errno]string{
		api.OK:        "",
		api.ErrArg:    "ERR syntax error",
		api.ErrLong:   "ERR value is too large",
		api.ErrFull:   "ERR too many keys",
		api.ErrKind:   "WRONGTYPE Operation against a key holding the wrong kind of value",
		api.ErrNumber: "ERR value is not an integer or out of range",
		api.ErrNone:   "ERR no such key",
		api.ErrNodes:  "ERR error 70",
	} {
		if got := told(Fault(e)); got != want {
			t.Errorf("Fault(%d) = %q; want %q", e, got, want)
		}
	}
}

// TestIs: an option's letters may be small and great; no others count as these.
func TestIs(t *testing.T) {
	for _, word := range []string{"rank", "RANK", "Rank", "rAnK"} {
		if !Is(word, "rank") {
			t.Errorf("%q is no rank", word)
		}
	}
	for _, word := range []string{"", "ran", "ranks", " rank", "rank ", "RAN\u212a", "rank\x00", "2ank"} {
		if Is(word, "rank") {
			t.Errorf("%q is rank", word)
		}
	}
}

// TestNumber: numbers' texts of 64 bits, and words that are none.
func TestNumber(t *testing.T) {
	for word, want := range map[string]int{"0": 0, "-1": -1, "17": 17, "9223372036854775807": math.MaxInt, "-9223372036854775808": math.MinInt} {
		if n, err := Number(word); n != want || err != nil {
			t.Errorf("Number(%q) = %d, %v; want %d", word, n, err, want)
		}
	}
	for _, word := range []string{"", "x", "-0", "+1", "01", "1 ", "1.0", "9223372036854775808", "-9223372036854775809"} {
		if n, err := Number(word); n != 0 || told(err) != "ERR value is not an integer or out of range" {
			t.Errorf("Number(%q) = %d, %v", word, n, err)
		}
	}
}

// TestBoth: two words, of which the first that can't be read is told.
func TestBoth(t *testing.T) {
	read := func(word string) (int, error) {
		if word != "1" && word != "2" {
			return 0, errors.New(word)
		}
		return int(word[0] - '0'), nil
	}
	for _, c := range []struct {
		first, second string
		a, b          int
		err           string
	}{
		{"1", "2", 1, 2, ""}, {"2", "1", 2, 1, ""}, {"x", "1", 0, 0, "x"}, {"1", "x", 1, 0, "x"}, {"x", "y", 0, 0, "x"},
	} {
		if a, b, err := Both(read, c.first, c.second); a != c.a || b != c.b || told(err) != c.err {
			t.Errorf("Both(%s, %s) = %d, %d, %v", c.first, c.second, a, b, err)
		}
	}
}

// TestSum: sums at both ends of 64 bits, and one beyond each.
func TestSum(t *testing.T) {
	for _, c := range []struct{ a, b, want int }{
		{0, 0, 0}, {1, 2, 3}, {-5, 3, -2}, {math.MaxInt, 0, math.MaxInt}, {math.MaxInt - 1, 1, math.MaxInt}, {0, math.MaxInt, math.MaxInt}, {math.MinInt, 0, math.MinInt}, {math.MinInt + 1, -1, math.MinInt}, {0, math.MinInt, math.MinInt}, {math.MinInt, math.MaxInt, -1}, {math.MaxInt, math.MinInt, -1},
	} {
		if got, err := Sum(c.a, c.b); got != c.want || err != nil {
			t.Errorf("Sum(%d, %d) = %d, %v; want %d", c.a, c.b, got, err, c.want)
		}
	}
	for _, c := range [][2]int{{math.MaxInt, 1}, {1, math.MaxInt}, {math.MaxInt, math.MaxInt}, {math.MinInt, -1}, {-1, math.MinInt}, {math.MinInt, math.MinInt}} {
		if got, err := Sum(c[0], c[1]); got != 0 || told(err) != "ERR increment or decrement would overflow" {
			t.Errorf("Sum(%d, %d) = %d, %v", c[0], c[1], got, err)
		}
	}
}

// TestPairs: words of which each has one to go with it, and an odd number of them.
func TestPairs(t *testing.T) {
	c := &Call{Name: "fill"}
	for n := range 9 {
		want := ""
		if n%2 != 0 {
			want = "ERR wrong number of arguments for 'fill' command"
		}
		if err := c.Pairs(make([]string, n)); told(err) != want {
			t.Errorf("%d words: %v", n, err)
		}
	}
}

// TestWords: the words of a list, one after the other, and none behind the last; the list stays.
func TestWords(t *testing.T) {
	for _, list := range [][]string{nil, {"a"}, {"", "b", ""}} {
		kept := slices.Clone(list)
		next := Words(list)
		var got []string
		for word, more := next(); more; word, more = next() {
			got = append(got, word)
		}
		if word, more := next(); word != "" || more {
			t.Errorf("behind the last of %q: %q, %v", list, word, more)
		}
		if !slices.Equal(got, kept) || !slices.Equal(list, kept) {
			t.Errorf("%q: %q", list, got)
		}
	}
}

// ends are places from far below 0 to far above the end of so many places.
func ends(of int) []int {
	list := []int{math.MinInt, math.MinInt + 1, -1 << 40, math.MaxInt, math.MaxInt - 1, 1 << 40}
	for i := -of - 3; i <= of+3; i++ {
		list = append(list, i)
	}
	return list
}

// meant tells which of so many places lie from a to b, by the words of chapter 14, each place looked at alone.
func meant(a, b, of int) []int {
	if a < 0 && b < 0 && a > b {
		return nil
	}
	var list []int
	for i := range of {
		behindA := i >= a && (a >= 0 || i-of >= a)
		aheadOfB := b >= 0 && i <= b || b < 0 && i-of <= b || b < 0 && b < -of && i == 0
		if behindA && aheadOfB {
			list = append(list, i)
		}
	}
	return list
}

// TestPlaces: the places from A to B, from far below 0 to far above the end.
func TestPlaces(t *testing.T) {
	for of := range 7 {
		for _, a := range ends(of) {
			for _, b := range ends(of) {
				from, end := Places(a, b, of)
				var got []int
				for i := from; i < end; i++ {
					got = append(got, i)
				}
				if want := meant(a, b, of); !slices.Equal(got, want) || from < 0 || end > of || from > end {
					t.Errorf("Places(%d, %d, %d) = %v; want %v", a, b, of, got, want)
				}
			}
		}
	}
}
