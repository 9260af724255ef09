package lists

import (
	"fmt"
	"slices"
	"strings"
	"testing"

	"cistern/api"
)

// TestLI1Pos: each option alone and with others.
func TestLI1Pos(t *testing.T) {
	for _, c := range []struct{ words, want string }{
		{"a", ":0"}, {"b", ":1"}, {"c", ":5"}, {"z", "_"}, {"''", "_"}, {"A", "_"},
		{"a RANK 1", ":0"}, {"a RANK 2", ":2"}, {"a RANK 3", ":4"}, {"a RANK 4", "_"}, {"a RANK " + greatest, "_"}, {"a RANK -1", ":4"}, {"a RANK -2", ":2"}, {"a RANK -3", ":0"}, {"a RANK -4", "_"}, {"a RANK " + least, "_"}, {"a RANK -9223372036854775807", "_"}, {"z RANK -1", "_"},
		{"a COUNT 0", "[:0 :2 :4]"}, {"a COUNT 1", "[:0]"}, {"a COUNT 2", "[:0 :2]"}, {"a COUNT 3", "[:0 :2 :4]"}, {"a COUNT 4", "[:0 :2 :4]"}, {"a COUNT " + greatest, "[:0 :2 :4]"}, {"z COUNT 0", "[]"}, {"z COUNT 1", "[]"},
		{"a MAXLEN 0", ":0"}, {"a MAXLEN 1", ":0"}, {"b MAXLEN 1", "_"}, {"b MAXLEN 2", ":1"}, {"c MAXLEN 5", "_"}, {"c MAXLEN 6", ":5"}, {"c MAXLEN 7", ":5"}, {"c MAXLEN " + greatest, ":5"},
		{"a RANK -1 MAXLEN 1", "_"}, {"c RANK -1 MAXLEN 1", ":5"}, {"a RANK -1 MAXLEN 2", ":4"}, {"a RANK -2 MAXLEN 3", "_"}, {"a RANK -2 MAXLEN 4", ":2"}, {"a RANK 2 MAXLEN 2", "_"}, {"a RANK 2 MAXLEN 3", ":2"},
		{"a COUNT 0 MAXLEN 3", "[:0 :2]"}, {"a MAXLEN 4 COUNT 1", "[:0]"}, {"a RANK -1 COUNT 0", "[:4 :2 :0]"}, {"a COUNT 2 RANK -1", "[:4 :2]"}, {"a COUNT 2 RANK -2", "[:2 :0]"}, {"a RANK 2 COUNT 0", "[:2 :4]"}, {"a RANK 4 COUNT 0", "[]"}, {"a RANK -4 COUNT 2", "[]"},
		{"a RANK -1 COUNT 0 MAXLEN 4", "[:4 :2]"}, {"a MAXLEN 4 COUNT 1 RANK -1", "[:4]"}, {"a COUNT 1 MAXLEN 3 RANK 2", "[:2]"}, {"b RANK 2 COUNT 5 MAXLEN 0", "[:3]"},
		{"a RANK 1 RANK 2", ":2"}, {"a RANK 2 RANK 1", ":0"}, {"a COUNT 1 COUNT 2", "[:0 :2]"}, {"a COUNT 0 RANK 9 COUNT 1 RANK -1", "[:4]"}, {"b MAXLEN 1 MAXLEN 0", ":1"}, {"b MAXLEN 0 MAXLEN 1", "_"}, {"a rank -1 Count 1 mAXLEN 9", "[:4]"},
	} {
		p := begun(t)
		p.want("RPUSH k a b a b a c", ":6")
		p.keeps(c.want, append([]string{"LPOS", "k"}, split(c.words)...)...)
		none := "_"
		if strings.Contains(strings.ToUpper(c.words), "COUNT") {
			none = "[]"
		}
		p.keeps(none, append([]string{"LPOS", "none"}, split(c.words)...)...)
	}
}

// TestLI1PosErrors: words that are no options, options without a number, numbers that can't be, and which of two errors is told.
func TestLI1PosErrors(t *testing.T) {
	for _, c := range []struct{ words, want string }{
		{"RANK", syntax}, {"COUNT", syntax}, {"MAXLEN", syntax}, {"RANK 1 COUNT", syntax}, {"RANK 1 COUNT 1 MAXLEN", syntax}, {"1", syntax}, {"1 RANK", syntax}, {"LEFT 1", syntax}, {"'' 1", syntax}, {"RANKS 1", syntax}, {"RANK 1 1", syntax}, {"RANK 1 1 1", syntax}, {"LIMIT 0 1", syntax},
		{"RANK 0", noRank}, {"COUNT -1", noCount}, {"MAXLEN -1", noMaxlen}, {"COUNT " + least, noCount}, {"MAXLEN " + least, noMaxlen}, {"RANK x", noNumber}, {"COUNT x", noNumber}, {"MAXLEN x", noNumber}, {"RANK COUNT", noNumber}, {"RANK RANK", noNumber}, {"COUNT RANK COUNT 1", noNumber},
		// The words are looked at ahead of the numbers.
		{"RANK 0 COUNT", syntax}, {"COUNT -1 BOGUS 1", syntax}, {"RANK x MAXLEN", syntax}, {"MAXLEN x 1", syntax},
		// The numbers are read one after the other.
		{"RANK 0 COUNT -1", noRank}, {"COUNT -1 RANK 0", noCount}, {"MAXLEN -1 RANK 0", noMaxlen}, {"RANK 0 MAXLEN -1", noRank}, {"COUNT -1 MAXLEN -1", noCount}, {"MAXLEN -1 COUNT -1", noMaxlen},
		{"RANK x COUNT -1", noNumber}, {"COUNT -1 RANK x", noCount}, {"MAXLEN -1 COUNT x", noMaxlen}, {"MAXLEN x RANK 0", noNumber}, {"RANK 0 COUNT x", noRank},
		// One that a later one takes the place of is read too.
		{"RANK 0 RANK 1", noRank}, {"COUNT -1 COUNT 1", noCount}, {"MAXLEN x MAXLEN 1", noNumber}, {"RANK 1 RANK 0", noRank}, {"COUNT 1 COUNT x", noNumber},
	} {
		p := withLists(t)
		p.give(0, "w", api.KindSet)
		for _, key := range []string{"s", "none", "w"} {
			p.refuses("LPOS "+key+" a "+c.words, c.want)
		}
	}
	p := withLists(t)
	for _, word := range noNumbers() {
		for _, option := range []string{"RANK", "COUNT", "MAXLEN"} {
			p.refusesWords(noNumber, "LPOS", "s", "a", option, word)
		}
	}
}

// TestLI1PosAll: all options in all orders, with all numbers that make a difference, and such as can't be.
func TestLI1PosAll(t *testing.T) {
	t.Parallel()
	orders := [][]int{{0}, {1}, {2}, {0, 1}, {1, 0}, {0, 2}, {2, 0}, {1, 2}, {2, 1}, {0, 1, 2}, {0, 2, 1}, {1, 0, 2}, {1, 2, 0}, {2, 0, 1}, {2, 1, 0}}
	p := newTrial(t, someLimits())
	p.want("RPUSH k a b a a", ":4")
	for rank := -5; rank <= 5; rank++ {
		for count := -1; count <= 4; count++ {
			for maxlen := -1; maxlen <= 5; maxlen++ {
				all := []string{fmt.Sprint("RANK ", rank), fmt.Sprint("COUNT ", count), fmt.Sprint("MAXLEN ", maxlen)}
				for _, order := range orders {
					words := []string{"LPOS", "k", "a"}
					for _, i := range order {
						words = append(words, strings.Fields(all[i])...)
					}
					p.ask(words...)
				}
			}
		}
	}
}

// TestLI1LongSearch: in a list that is looked at in several pieces, from both ends.
func TestLI1LongSearch(t *testing.T) {
	t.Parallel()
	for _, n := range []int{atOnce - 1, atOnce, atOnce + 1, 3*atOnce + 5} {
		limits := greatestLimits()
		limits.ListEntries = 100
		p := newTrial(t, limits)
		words := append([]string{"RPUSH", "k"}, slices.Repeat([]string{"e"}, n)...)
		p.ask(words...)
		for _, at := range []int{0, 1, atOnce - 1, atOnce, atOnce + 1, 2 * atOnce, n - atOnce - 1, n - atOnce, n - atOnce + 1, n - 2, n - 1} {
			if at < 0 || at >= n {
				continue
			}
			p.ask("LSET", "k", fmt.Sprint(at), "x")
			p.wantWords(fmt.Sprint(":", at), "LPOS", "k", "x")
			p.wantWords(fmt.Sprint(":", at), "LPOS", "k", "x", "RANK", "-1")
			p.wantWords("_", "LPOS", "k", "x", "RANK", "2")
			p.wantWords(fmt.Sprint(":", at), "LPOS", "k", "x", "MAXLEN", fmt.Sprint(at+1))
			p.wantWords(fmt.Sprint(":", at), "LPOS", "k", "x", "RANK", "-1", "MAXLEN", fmt.Sprint(n-at))
			if at > 0 && at < n-1 {
				p.wantWords("_", "LPOS", "k", "x", "MAXLEN", fmt.Sprint(at))
				p.wantWords("_", "LPOS", "k", "x", "RANK", "-1", "MAXLEN", fmt.Sprint(n-at-1))
			}
			p.wantWords(fmt.Sprint(":", n+1), "LINSERT", "k", "AFTER", "x", "y")
			p.wantWords(":1", "LREM", "k", "-1", "y")
			p.ask("LSET", "k", fmt.Sprint(at), "e")
		}
		p.wantWords(fmt.Sprint("[:", n-1, " :", n-2, "]"), "LPOS", "k", "e", "RANK", "-1", "COUNT", "2")
		p.wantWords(fmt.Sprint(":", n), "LREM", "k", "0", "e")
	}
}
