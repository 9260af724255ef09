package command

import (
	"math"
	"slices"
	"strings"
	"testing"
)

// TestAmount: numbers that are not below 0; else what a client is told.
func TestAmount(t *testing.T) {
	for word, want := range map[string]int{"0": 0, "1": 1, "9223372036854775807": math.MaxInt} {
		if n, err := Amount(word); n != want || err != nil {
			t.Errorf("Amount(%q) = %d, %v", word, n, err)
		}
	}
	for _, word := range []string{"", "x", "-1", "01", "-0", "-9223372036854775808", "9223372036854775808"} {
		if n, err := Amount(word); n != 0 || told(err) != "ERR value is out of range, must be positive" {
			t.Errorf("Amount(%q) = %d, %v", word, n, err)
		}
	}
}

// TestKeyCount: numbers above 0.
func TestKeyCount(t *testing.T) {
	for word, want := range map[string]int{"1": 1, "77": 77, "9223372036854775807": math.MaxInt} {
		if n, err := KeyCount(word); n != want || err != nil {
			t.Errorf("KeyCount(%q) = %d, %v", word, n, err)
		}
	}
	for _, word := range []string{"", "x", "0", "-1", "01", "-9223372036854775808", "9223372036854775808"} {
		if n, err := KeyCount(word); n != 0 || told(err) != "ERR numkeys should be greater than 0" {
			t.Errorf("KeyCount(%q) = %d, %v", word, n, err)
		}
	}
}

// TestCountedKeys: the keys and what stands behind them; more keys than words.
func TestCountedKeys(t *testing.T) {
	for _, c := range []struct{ line, keys, behind, err string }{
		{"1 a", "a", "", ""}, {"1 a b", "a", "b", ""}, {"2 a b", "a b", "", ""}, {"2 a b LIMIT 1", "a b", "LIMIT 1", ""}, {"4 a b LIMIT 1", "a b LIMIT 1", "", ""},
		{"2 a", "", "", "ERR Number of keys can't be greater than number of args"}, {"1", "", "", "ERR Number of keys can't be greater than number of args"}, {"9223372036854775807 a b", "", "", "ERR Number of keys can't be greater than number of args"},
		{"0 a", "", "", "ERR numkeys should be greater than 0"}, {"x a", "", "", "ERR numkeys should be greater than 0"}, {"-1", "", "", "ERR numkeys should be greater than 0"},
	} {
		keys, behind, err := CountedKeys(strings.Fields(c.line))
		if !slices.Equal(keys, strings.Fields(c.keys)) || !slices.Equal(behind, strings.Fields(c.behind)) || told(err) != c.err {
			t.Errorf("%s: %q, %q, %v", c.line, keys, behind, err)
		}
	}
}

// TestLimit: no words, LIMIT and a number, and words that are neither.
func TestLimit(t *testing.T) {
	const syntax, negative = "ERR syntax error", "ERR LIMIT can't be negative"
	for _, c := range []struct {
		line string
		want int
		err  string
	}{
		{"", 0, ""}, {"LIMIT 0", 0, ""}, {"limit 5", 5, ""}, {"Limit 9223372036854775807", math.MaxInt, ""}, {"LIMIT -1", 0, negative}, {"LIMIT -9223372036854775808", 0, negative},
		{"LIMIT", 0, syntax}, {"5", 0, syntax}, {"LIMIT x", 0, syntax}, {"LIMIT 01", 0, syntax}, {"LIMIT 1 more", 0, syntax}, {"LIMIT -1 more", 0, syntax}, {"LIMITS 1", 0, syntax}, {"1 LIMIT", 0, syntax}, {"LIMIT 9223372036854775808", 0, syntax},
	} {
		if n, err := Limit(strings.Fields(c.line)...); n != c.want || told(err) != c.err {
			t.Errorf("%q: %d, %v", c.line, n, err)
		}
	}
}
