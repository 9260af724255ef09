package glob

import (
	"strings"
	"sync"
	"testing"

	"cistern/api"
)

func TestP42Literal(t *testing.T) {
	for _, c := range []struct {
		pattern, want string
		ok            bool
	}{
		{"a\\*", "a*", true}, {"a*", "", false},
		{"", "", true}, {"abc", "abc", true}, {"*", "", false}, {"?", "", false}, {"[", "", false}, {"[]", "", false}, {"[a]", "", false}, {"[^a]", "", false}, {"[a", "", false},
		{"abc*", "", false}, {"abc?", "", false}, {"abc[", "", false}, {"*abc", "", false}, {"ab?c", "", false}, {"ab[c]", "", false},
		{"\\*", "*", true}, {"\\?", "?", true}, {"\\[", "[", true}, {"\\[a]", "[a]", true}, {"\\*\\?\\[", "*?[", true}, {"\\**", "", false}, {"*\\*", "", false}, {"\\\\*", "", false}, {"\\\\\\*", "\\*", true}, {"\\[[", "", false}, {"\\??", "", false},
		{"\\", "\\", true}, {"a\\", "a\\", true}, {"\\\\", "\\", true}, {"\\\\\\", "\\\\", true}, {"\\a\\b", "ab", true}, {"\\n", "n", true},
		{"]", "]", true}, {"^", "^", true}, {"-", "-", true}, {"a-z", "a-z", true}, {"a]b", "a]b", true}, {"^a", "^a", true}, {"\\]", "]", true},
		{"ABC", "ABC", true}, {"\x00\xff", "\x00\xff", true}, {"\\\x00\\\xff", "\x00\xff", true}, {"(", "(", true}, {" ", " ", true},
	} {
		if got, ok := Literal(c.pattern); got != c.want || ok != c.ok {
			t.Errorf("Literal(%q) = %q, %v; want %q, %v", c.pattern, got, ok, c.want, c.ok)
		}
	}
	long := strings.Repeat("\\*x", 100000)
	if got, ok := Literal(long); got != strings.Repeat("*x", 100000) || !ok {
		t.Errorf("a long one: %d bytes, %v", len(got), ok)
	}
	if got, ok := Literal(long + "?"); got != "" || ok {
		t.Errorf("a long one that is none: %d bytes, %v", len(got), ok)
	}
}

// wild tells, by the chapter's words, whether a pattern has a `*`, a `?` or a set.
func wild(p string) bool {
	for i := 0; i < len(p); i++ {
		if p[i] == '\\' {
			i++
		} else if strings.IndexByte("*?[", p[i]) >= 0 {
			return true
		}
	}
	return false
}

// TestP42Only: of all texts a pattern matches just its literal.
func TestP42Only(t *testing.T) {
	asked := texts("*?[\\a", 4)
	for _, p := range texts("*?[\\a]", 4) {
		lit, ok := Literal(p)
		if ok == wild(p) || !ok && lit != "" {
			t.Fatalf("Literal(%q) = %q, %v", p, lit, ok)
		}
		if !ok {
			continue
		}
		if !Match(p, lit, false) {
			t.Fatalf("Literal(%q) = %q, which it does not match", p, lit)
		}
		for _, text := range asked {
			if Match(p, text, false) != (text == lit) {
				t.Fatalf("%q, of which %q is the literal: Match of %q is %v", p, lit, text, text != lit)
			}
		}
	}
	for _, s := range asked {
		if lit, ok := Literal(escaped(s)); lit != s || !ok {
			t.Fatalf("Literal(%q) = %q, %v", escaped(s), lit, ok)
		}
	}
}

func TestP44Fold(t *testing.T) {
	for _, c := range [][2]string{
		{"", ""}, {"abc", "abc"}, {"ABC", "abc"}, {"AbC xYz", "abc xyz"}, {"A\x00Z\xff", "a\x00z\xff"}, {"Ä", "Ä"}, {"\xc3\x84", "\xc3\x84"}, {"@AZ[`az{", "@az[`az{"}, {"\xe2\x84\xaa", "\xe2\x84\xaa"}, {"123", "123"},
		{strings.Repeat("Q", 100000), strings.Repeat("q", 100000)},
	} {
		if got := Fold(c[0]); got != c[1] {
			t.Errorf("Fold(%.40q) = %.40q", c[0], got)
		}
	}
	for b := range 256 {
		want := byte(b)
		if b >= 65 && b <= 90 {
			want += 32
		}
		if got := Fold(string([]byte{byte(b)})); got != string([]byte{want}) {
			t.Errorf("Fold of byte %d: %q", b, got)
		}
	}
}

// TestTotal: long arguments, and such as nothing is made for, end without a panic.
func TestTotal(t *testing.T) {
	for _, s := range []string{"", "*", "[", "\\", strings.Repeat("[", 1<<17), strings.Repeat("\\", 1<<17+1), strings.Repeat("[^]-", 1<<15), strings.Repeat("*?", 1<<16), "[" + strings.Repeat("\x00-\xff", 1<<15), strings.Repeat("-", 1<<17), strings.Repeat("(", 1<<17), strings.Repeat("9", 1<<17), strings.Repeat("\xff", 1<<17)} {
		for _, text := range []string{"", "a", s[:min(len(s), 100)]} {
			for _, fold := range []bool{false, true} {
				Match(s, text, fold)
				Match(text, s, fold)
			}
		}
		Literal(s)
		Bound(s)
		Lex(s)
		Score(s)
		Fold(s)
	}
}

// TestAlone: what a call answers hangs on its arguments alone, whatever other calls go on beside it or went ahead.
func TestAlone(t *testing.T) {
	type answer struct {
		plain, folded, literal, scored bool
		text, low                      string
		bound                          api.Bound
		lex                            api.Lex
		score                          int
		errs                           [2]api.Errno
	}
	ask := func(p, s string) (a answer) {
		a.plain, a.folded = Match(p, s, false), Match(p, s, true)
		a.text, a.literal = Literal(p)
		a.low = Fold(s)
		a.bound, a.errs[0] = Bound(p)
		a.lex, a.errs[1] = Lex(p)
		a.score, a.scored = Score(p)
		return a
	}
	m := mix(29)
	var asked [][2]string
	var want []answer
	for range 2000 {
		pair := [2]string{m.text(m.below(8), "*?[]^-\\aA15("), m.text(m.below(8), "aA15")}
		asked = append(asked, pair)
		want = append(want, ask(pair[0], pair[1]))
	}
	var workers sync.WaitGroup
	for w := range 4 {
		workers.Go(func() {
			for i := range asked {
				k := (i*7 + w*501) % len(asked)
				if got := ask(asked[k][0], asked[k][1]); got != want[k] {
					t.Errorf("%q: %+v; ahead %+v", asked[k], got, want[k])
				}
			}
		})
	}
	workers.Wait()
}

func FuzzTotal(f *testing.F) {
	f.Add("h[^a-c]*\\?", "hello?", true)
	f.Add("[", "", false)
	f.Add("(-inf", "[a", false)
	f.Fuzz(func(t *testing.T, p, s string, fold bool) {
		if len(p) <= 12 && len(s) <= 8 {
			if got, want := Match(p, s, fold), reference(p, s, fold); got != want {
				t.Errorf("Match(%q, %q, %v) = %v", p, s, fold, got)
			}
		}
		if b, err := Bound(p); err != api.OK && (err != api.ErrBound || b != (api.Bound{})) {
			t.Errorf("Bound(%q) = %+v, %d", p, b, err)
		}
		if l, err := Lex(p); err != api.OK && (err != api.ErrBound || l != (api.Lex{})) {
			t.Errorf("Lex(%q) = %+v, %d", p, l, err)
		}
		if n, ok := Score(p); !ok && n != 0 {
			t.Errorf("Score(%q) = %d, %v", p, n, ok)
		}
		if lit, ok := Literal(p); ok != Match(p, lit, false) && ok || !ok && lit != "" {
			t.Errorf("Literal(%q) = %q, %v", p, lit, ok)
		}
	})
}
