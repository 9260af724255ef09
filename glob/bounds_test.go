package glob

import (
	"math"
	"strconv"
	"strings"
	"testing"

	"cistern/api"
)

// notNumbers are texts that are no number's text in the form of layer 2, or are beyond the greatest and the least score.
func notNumbers() []string {
	list := []string{
		"", " ", "-", "+", "--", "-+", "+1", "-0", "+0", "00", "01", "-01", "007", "1.5", "1.0", "1.", ".5", "1e3", "1E3", "0x10", "1_000", "1,000", "- 1", "1-", "5a", "a5", "five", "--1", "-+1", "+-1",
		" 5", "5 ", "\t5", "5\n", "5\x00", "\x005", "\xd9\xa5", "nan", "NaN", "5)", "[5", "[5]",
		"9007199254740992", "-9007199254740992", "9223372036854775807", "-9223372036854775808", "9223372036854775808", "-9223372036854775809", "18446744073709551615", strings.Repeat("9", 1000),
		"in", "nf", "infi", "infinity", "-infinity", "+infinity", "i nf", " inf", "inf ", "-inf ", "- inf", "+ inf", "--inf", "-+inf", "+-inf", "++inf", "inf-", "inf0", "\xc4\xb1nf", "\xc4\xb0nf", "-", "+", "[inf", "inf\x00",
	}
	return list
}

func TestP43Score(t *testing.T) {
	for _, n := range []int{0, 1, -1, 5, 10, -10, 99, 1 << 31, -1 << 31, 1 << 32, 1 << 52, api.MaxNumber - 1, api.MaxNumber, -api.MaxNumber + 1, -api.MaxNumber} {
		s := strconv.Itoa(n)
		if got, ok := Score(s); got != n || !ok {
			t.Errorf("Score(%q) = %d, %v", s, got, ok)
		}
	}
	for _, n := range []int{api.MaxNumber + 1, -api.MaxNumber - 1, api.MaxNumber + 2, 1 << 54, -1 << 54, math.MaxInt, math.MinInt} {
		s := strconv.Itoa(n)
		if got, ok := Score(s); got != 0 || ok {
			t.Errorf("Score(%q) = %d, %v", s, got, ok)
		}
	}
	for _, s := range append(notNumbers(), "(5", "inf", "+inf", "-inf") {
		if got, ok := Score(s); got != 0 || ok {
			t.Errorf("Score(%q) = %d, %v", s, got, ok)
		}
	}
}

func checkBound(t *testing.T, s string, want api.Bound, wantErr api.Errno) {
	t.Helper()
	if got, err := Bound(s); got != want || err != wantErr {
		t.Errorf("Bound(%.40q) = %+v, %d; want %+v, %d", s, got, err, want, wantErr)
	}
}

func TestP43BoundExamples(t *testing.T) {
	checkBound(t, "(5", api.Bound{Score: 5, Open: true}, api.OK)
	checkBound(t, "+INF", api.Bound{Inf: 1}, api.OK)
	checkBound(t, "(-inf", api.Bound{Inf: -1}, api.OK)
	for _, s := range []string{"1.5", "(", ""} {
		checkBound(t, s, api.Bound{}, api.ErrBound)
	}
}

func TestP43BoundNumbers(t *testing.T) {
	for _, n := range []int{0, 1, -1, 5, -3, 1000000, api.MaxNumber - 1, api.MaxNumber, -api.MaxNumber, -api.MaxNumber + 1} {
		checkBound(t, strconv.Itoa(n), api.Bound{Score: n}, api.OK)
		checkBound(t, "("+strconv.Itoa(n), api.Bound{Score: n, Open: true}, api.OK)
	}
	for _, n := range []int{api.MaxNumber + 1, -api.MaxNumber - 1, math.MaxInt, math.MinInt} {
		checkBound(t, strconv.Itoa(n), api.Bound{}, api.ErrBound)
		checkBound(t, "("+strconv.Itoa(n), api.Bound{}, api.ErrBound)
	}
	for _, s := range notNumbers() {
		checkBound(t, s, api.Bound{}, api.ErrBound)
		checkBound(t, "("+s, api.Bound{}, api.ErrBound)
	}
	for _, s := range []string{"((5", "(((5", "((inf", "((", "5(", "(5(", " (5", "( 5", "(5 ", "-(5", "[5", ")5", "(5)", "inf(", "-(inf", "+(inf", " (inf", "( inf"} {
		checkBound(t, s, api.Bound{}, api.ErrBound)
	}
}

// TestP43BoundInf: all ways to write inf in small and large letters.
func TestP43BoundInf(t *testing.T) {
	for _, mark := range []string{"", "("} {
		for _, i := range []string{"i", "I"} {
			for _, n := range []string{"n", "N"} {
				for _, f := range []string{"f", "F"} {
					checkBound(t, mark+i+n+f, api.Bound{Inf: 1}, api.OK)
					checkBound(t, mark+"+"+i+n+f, api.Bound{Inf: 1}, api.OK)
					checkBound(t, mark+"-"+i+n+f, api.Bound{Inf: -1}, api.OK)
				}
			}
		}
	}
}

// TestP43BoundAll holds all short texts against what a bound can be.
func TestP43BoundAll(t *testing.T) {
	want := map[string]api.Bound{}
	for n := -9999; n <= 99999; n++ {
		s := strconv.Itoa(n)
		want[s], want["("+s] = api.Bound{Score: n}, api.Bound{Score: n, Open: true}
	}
	for _, s := range []string{"inf", "+inf", "(inf", "(+inf"} {
		want[s] = api.Bound{Inf: 1}
	}
	want["-inf"], want["(-inf"] = api.Bound{Inf: -1}, api.Bound{Inf: -1}
	found := 0
	for _, s := range texts("(-+0 9inf", 5) {
		if b, ok := want[s]; ok {
			checkBound(t, s, b, api.OK)
			found++
		} else {
			checkBound(t, s, api.Bound{}, api.ErrBound)
		}
	}
	if found < 50 {
		t.Errorf("only %d bounds", found)
	}
}

func checkLex(t *testing.T, s string, want api.Lex, wantErr api.Errno) {
	t.Helper()
	if got, err := Lex(s); got != want || err != wantErr {
		t.Errorf("Lex(%.40q) = %+v, %d; want %+v, %d", s, got, err, want, wantErr)
	}
}

func TestP43Lex(t *testing.T) {
	checkLex(t, "-", api.Lex{Inf: -1}, api.OK)
	checkLex(t, "+", api.Lex{Inf: 1}, api.OK)
	checkLex(t, "[a", api.Lex{Text: "a"}, api.OK)
	for _, text := range []string{"", "a", "abc", "-", "+", "[", "(", "[a", "(a", "\x00", "\xff", " ", "-inf", span(0, 255), strings.Repeat("x", api.MaxElement)} {
		checkLex(t, "["+text, api.Lex{Text: text}, api.OK)
		checkLex(t, "("+text, api.Lex{Text: text, Open: true}, api.OK)
	}
	for _, behind := range []string{"", "a", "-", "+", " ", "\x00", "[a"} {
		for b := range 256 {
			first := string([]byte{byte(b)})
			if strings.Contains("[(", first) || behind == "" && strings.Contains("-+", first) {
				continue
			}
			checkLex(t, first+behind, api.Lex{}, api.ErrBound)
		}
	}
	for _, s := range []string{"", "a", "--", "++", "-inf", "+inf", "-a", "+a", " [a", " -"} {
		checkLex(t, s, api.Lex{}, api.ErrBound)
	}
}
