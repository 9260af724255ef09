package glob

import (
	"slices"
	"strings"
	"testing"
	"time"
)

// mix gives numbers that look mixed, the same ones in every run.
type mix uint64

func (m *mix) next() uint64 {
	*m ^= *m << 13
	*m ^= *m >> 7
	*m ^= *m << 17
	return uint64(*m)
}

func (m *mix) below(n int) int { return int(m.next() >> 11 % uint64(n)) }

// text gives n bytes of an alphabet.
func (m *mix) text(n int, alphabet string) string {
	b := make([]byte, n)
	for i := range b {
		b[i] = alphabet[m.below(len(alphabet))]
	}
	return string(b)
}

// span gives all bytes from one to another.
func span(from, to int) string {
	var b []byte
	for c := from; c <= to; c++ {
		b = append(b, byte(c))
	}
	return string(b)
}

// sorted gives a text's bytes in their order.
func sorted(s string) string {
	b := []byte(s)
	slices.Sort(b)
	return string(b)
}

// texts gives all texts of at most n bytes of an alphabet.
func texts(alphabet string, n int) []string {
	all := []string{""}
	for from := 0; len(all[from]) < n; from++ {
		for i := range len(alphabet) {
			all = append(all, all[from]+alphabet[i:i+1])
		}
	}
	return all
}

// low folds one byte by the chapter's words, if there is folding.
func low(b byte, fold bool) byte {
	if at := strings.IndexByte("ABCDEFGHIJKLMNOPQRSTUVWXYZ", b); fold && at >= 0 {
		return "abcdefghijklmnopqrstuvwxyz"[at]
	}
	return b
}

// setHas reads a set by the chapter's words, with p behind its `[`: whether it stands for c, and where it ends.
func setHas(p string, c byte, fold bool) (bool, int) {
	i, over, found := 0, false, false
	if i < len(p) && p[i] == '^' {
		over = true
		i++
	}
	for i < len(p) && p[i] != ']' {
		if p[i] == '\\' && i+1 < len(p) {
			found = found || low(p[i+1], fold) == low(c, fold)
			i += 2
		} else if i+2 < len(p) && p[i+1] == '-' {
			a, b := low(p[i], fold), low(p[i+2], fold)
			if a > b {
				a, b = b, a
			}
			found = found || a <= low(c, fold) && low(c, fold) <= b
			i += 3
		} else {
			found = found || low(p[i], fold) == low(c, fold)
			i++
		}
	}
	if i < len(p) {
		i++
	}
	return found != over, i
}

// reference is Match by the chapter's words, trying all that a star can stand for.
func reference(p, text string, fold bool) bool {
	if p == "" {
		return text == ""
	}
	if p[0] == '*' {
		return reference(p[1:], text, fold) || text != "" && reference(p, text[1:], fold)
	}
	if text == "" {
		return false
	}
	ok, size := true, 1
	switch {
	case p[0] == '?':
	case p[0] == '[':
		ok, size = setHas(p[1:], text[0], fold)
		size++
	case p[0] == '\\' && len(p) > 1:
		ok, size = low(p[1], fold) == low(text[0], fold), 2
	default:
		ok = low(p[0], fold) == low(text[0], fold)
	}
	return ok && reference(p[size:], text[1:], fold)
}

type match struct {
	pattern, text string
	want          bool
}

func checkMatch(t *testing.T, fold bool, cases []match) {
	t.Helper()
	for _, c := range cases {
		if got := Match(c.pattern, c.text, fold); got != c.want {
			t.Errorf("Match(%.60q, %.60q, %v) = %v; want %v", c.pattern, c.text, fold, got, c.want)
		}
	}
}

// standsFor gives the bytes that a pattern of one step stands for.
func standsFor(pattern string, fold bool) string {
	var found []byte
	for b := range 256 {
		if Match(pattern, string([]byte{byte(b)}), fold) {
			found = append(found, byte(b))
		}
	}
	return string(found)
}

// but gives all bytes but some.
func but(some string) string {
	var left []byte
	for b := range 256 {
		if strings.IndexByte(some, byte(b)) < 0 {
			left = append(left, byte(b))
		}
	}
	return string(left)
}

func TestP41Examples(t *testing.T) {
	checkMatch(t, false, []match{
		{"h?llo", "hello", true}, {"h[ae]llo", "hallo", true}, {"h[^e]llo", "hbllo", true}, {"h[a-b]llo", "hbllo", true}, {"h\\*", "h*", true},
		{"h[^e]llo", "hello", false}, {"h\\*", "hx", false},
		{"[", "", false}, {"[]", "a", false}, {"[^]", "a", true}, {"[a", "a", true}, {"[z-a]", "m", true}, {"[a-]", "]", true}, {"\\", "\\", true},
	})
	checkMatch(t, true, []match{{"HELLO", "hello", true}, {"[A-C]x", "bX", true}})
}

func TestP41Whole(t *testing.T) {
	checkMatch(t, false, []match{
		{"", "", true}, {"", "a", false}, {"", "\x00", false}, {"a", "", false}, {"?", "", false}, {"[a]", "", false}, {"[^a]", "", false}, {"\\", "", false}, {"\\a", "", false}, {"[^]", "", false},
		{"abc", "abc", true}, {"abc", "ab", false}, {"abc", "abcd", false}, {"abc", "xabc", false}, {"abc", "abd", false},
		{"a?c", "abc", true}, {"a?c", "a?c", true}, {"a?c", "ac", false}, {"a?c", "abbc", false}, {"??", "ab", true}, {"??", "a", false}, {"??", "abc", false},
		{"user:*:name", "user:17:name", true}, {"user:*:name", "user::name", true}, {"user:*:name", "user:17:nam", false}, {"user:*:name", "user:17:name ", false},
		{"]", "]", true}, {"^", "^", true}, {"-", "-", true}, {"a-c", "b", false}, {"a-c", "a-c", true}, {"a]", "a]", true}, {"^a", "b", false},
	})
}

func TestP41Stars(t *testing.T) {
	cases := []match{
		{"a*", "a", true}, {"a*", "", false}, {"a*", "ba", false}, {"*a", "a", true}, {"*a", "ba", true}, {"*a", "ab", false}, {"*a*", "bab", true}, {"*a*", "bb", false},
		{"a*b", "ab", true}, {"a*b", "aab", true}, {"a*b", "abb", true}, {"a*b", "aba", false}, {"a*b*c", "aXbYc", true}, {"a*b*c", "aXcYb", false}, {"a*b*c", "abcbc", true},
		{"*?", "", false}, {"*?", "a", true}, {"?*", "a", true}, {"?*?", "a", false}, {"?*?", "ab", true}, {"*?*?*", "a", false}, {"*?*?*", "abc", true},
		{"*[ab]", "xxb", true}, {"*[ab]", "bxx", false}, {"*[^ab]*", "abab", false}, {"*[^ab]*", "abcab", true}, {"*[]*", "abc", false}, {"*[]", "", false},
		{"*aab", "aaaab", true}, {"*abab*abab", "abababab", true}, {"*abab*abab", "ababab", false}, {"*ab*ba", "aba", false}, {"*ab*ba", "abba", true},
		{"a*a", "a", false}, {"a*a", "aa", true}, {"*\\*", "ab", false}, {"*\\*", "ab*", true}, {"\\**", "*ab", true}, {"\\**", "ab", false},
	}
	for _, c := range cases {
		for _, stars := range []string{"**", "***", "*****************"} {
			if !strings.Contains(c.pattern, "\\*") {
				cases = append(cases, match{strings.ReplaceAll(c.pattern, "*", stars), c.text, c.want})
			}
		}
	}
	for _, text := range texts("a\x00\xff", 4) {
		for _, stars := range []string{"*", "**", "***"} {
			cases = append(cases, match{stars, text, true})
		}
	}
	checkMatch(t, false, cases)
}

// TestP41Sets: each set stands for just these bytes.
func TestP41Sets(t *testing.T) {
	for _, c := range []struct{ set, want string }{
		{"[a]", "a"}, {"[abc]", "abc"}, {"[cba]", "abc"}, {"[aa]", "a"}, {"[*]", "*"}, {"[?]", "?"}, {"[[]", "["}, {"[^[]", but("[")},
		{"[]", ""}, {"[", ""}, {"[^]", but("")}, {"[^", but("")}, {"[a", "a"}, {"[abc", "abc"}, {"[^a", but("a")}, {"[^abc", but("abc")},
		{"[a^]", "^a"}, {"[a^", "^a"}, {"[^^]", but("^")}, {"[^a^]", but("^a")}, {"[\\^a]", "^a"}, {"[^\\^]", but("^")},
		{"[\\]]", "]"}, {"[\\]", "]"}, {"[^\\]]", but("]")}, {"[\\]a]", "]a"}, {"[\\", "\\"}, {"[a\\", "\\a"}, {"[^\\", but("\\")}, {"[\\\\]", "\\"}, {"[\\\\", "\\"}, {"[\\\\a]", "\\a"}, {"[\\-]", "-"}, {"[\\a]", "a"},
		{"[a-c]", "abc"}, {"[c-a]", "abc"}, {"[b-b]", "b"}, {"[^a-c]", but("abc")}, {"[^c-a]", but("abc")}, {"[a-c", "abc"}, {"[a-cx]", "abcx"}, {"[xa-c]", "abcx"}, {"[a-ce-g]", "abcefg"}, {"[a-c-e]", "abc-e"},
		{"[a-]", "]^_`a"}, {"[]-a]", ""}, {"[_-]", "]^_"}, {"[[-]", "[\\]"}, {"[Z-]", "Z[\\]"}, {"[a-]]", "]^_`a"}, {"[^a-]", but("]^_`a")},
		{"[-]", "-"}, {"[-", "-"}, {"[-a]", "-a"}, {"[-a-c]", "-abc"}, {"[a-", "-a"}, {"[--]", "-./0123456789:;<=>?@ABCDEFGHIJKLMNOPQRSTUVWXYZ[\\]"}, {"[---]", "-"}, {"[+--]", "+,-"}, {"[--/]", "-./"}, {"[^-a]", but("-a")}, {"[^-", but("-")}, {"[^-]", but("-")},
		{"[a-\\]", "\\]^_`a"}, {"[Y-\\]", "YZ[\\"}, {"[a\\-c]", "-ac"}, {"[\\a-c]", "-ac"}, {"[\\a-]", "-a"}, {"[\\--/]", "-/"}, {"[^-^]", but("^-")}, {"[a^-`]", "^_`a"}, {"[^^-`]", but("^_`")},
		{"[\x00]", "\x00"}, {"[\x00-\x02]", "\x00\x01\x02"}, {"[\xfd-\xff]", "\xfd\xfe\xff"}, {"[\x00-\xff]", but("")}, {"[\xff-\x00]", but("")}, {"[^\x00-\xff]", ""}, {"[\x7f-\x81]", "\x7f\x80\x81"}, {"[^\x00]", but("\x00")}, {"[^\xff]", but("\xff")}, {"[\x3f-\x40]", "\x3f\x40"}, {"[\xbf-\xc0]", "\xbf\xc0"},
		{"[\xc3\xa9]", "\xa9\xc3"}, {"[A-C]", "ABC"}, {"[^A-Ca-c]", but("ABCabc")},
	} {
		if got, want := standsFor(c.set, false), sorted(c.want); got != want {
			t.Errorf("%q stands for %q; want %q", c.set, got, want)
		}
		checkMatch(t, false, []match{{c.set, "", false}})
	}
}

// TestP41SetEnds: where a set ends, the pattern goes on.
func TestP41SetEnds(t *testing.T) {
	checkMatch(t, false, []match{
		{"[a]b", "ab", true}, {"[a]b", "a", false}, {"[a]]", "a]", true}, {"[a]]", "a", false}, {"[^]]", "x]", true}, {"[^]]", "x", false}, {"[]a]", "a", false}, {"[]a]", "]", false}, {"[]a]", "", false},
		{"[\\]]b", "]b", true}, {"[a-]]b", "_b", true}, {"[a-]]b", "_", false}, {"[a-]b", "b", true}, {"[a-]b", "_b", false}, {"[a-]]b", "b", false}, {"[ab", "ab", false}, {"[a*", "*", true}, {"[a*", "abc", false},
		{"[a][b]", "ab", true}, {"[a][b]", "a", false}, {"[[][]]", "[", false}, {"[[]]", "[]", true}, {"[a]*", "abc", true}, {"[a]?", "ab", true}, {"[a]\\", "a\\", true}, {"x[a]y[b]z", "xaybz", true},
	})
}

// TestP41Bytes: every byte as a step by itself, escaped, and as a set's member.
func TestP41Bytes(t *testing.T) {
	for b := range 256 {
		one := string([]byte{byte(b)})
		if got := standsFor("\\"+one, false); got != one {
			t.Errorf("byte %d escaped stands for %q", b, got)
		}
		if got := standsFor("[\\"+one+"]", false); got != one {
			t.Errorf("byte %d escaped in a set stands for %q", b, got)
		}
		if got := standsFor("[^\\"+one+"]", false); got != but(one) {
			t.Errorf("all but byte %d: %q", b, got)
		}
		want := one
		switch one {
		case "*", "?":
			want = but("")
		case "[":
			want = ""
		}
		if got := standsFor(one, false); got != want {
			t.Errorf("byte %d stands for %q", b, got)
		}
	}
	if got := standsFor("?", false); got != but("") {
		t.Errorf("? stands for %q", got)
	}
	checkMatch(t, false, []match{
		{"\\\\", "\\", true}, {"\\\\", "\\\\", false}, {"a\\", "a\\", true}, {"a\\", "a", false}, {"\\a\\", "a\\", true}, {"\\[a]", "[a]", true}, {"\\[a]", "a", false}, {"\\?", "?", true}, {"\\?", "x", false}, {"\\n", "n", true}, {"\\n", "\n", false},
		{"?", "é", false}, {"??", "é", true}, {"\xff*\x00", "\xffab\x00", true}, {"\xff*\x00", "\xffab", false}, {"\x00", "\x00", true}, {"\x00", "", false}, {"a\x00b", "a\x00b", true}, {"a\x00b", "a\x00c", false}, {"\x80", "\x81", false},
	})
}

// TestP41Folded: what steps stand for with folding.
func TestP41Folded(t *testing.T) {
	letters := "ABCDEFGHIJKLMNOPQRSTUVWXYZabcdefghijklmnopqrstuvwxyz"
	for b := range 256 {
		one := string([]byte{byte(b)})
		want := one
		if at := strings.IndexByte(letters, byte(b)); at >= 0 {
			want = letters[at%26:at%26+1] + letters[at%26+26:at%26+27]
		}
		for _, form := range []string{"\\" + one, "[\\" + one + "]", "[\\" + one} {
			if got := standsFor(form, true); got != want {
				t.Errorf("%q with folding stands for %q; want %q", form, got, want)
			}
		}
		if got := standsFor("[^\\"+one+"]", true); got != but(want) {
			t.Errorf("all but byte %d with folding: %q", b, got)
		}
	}
	for _, c := range []struct{ set, want string }{
		{"[A-C]", "ABCabc"}, {"[a-c]", "ABCabc"}, {"[A-c]", "ABCabc"}, {"[C-a]", "ABCabc"}, {"[a-C]", "ABCabc"}, {"[^A-C]", but("ABCabc")}, {"[^a-C]", but("ABCabc")}, {"[Z-a]", letters}, {"[A-Z]", letters},
		{"[A-_]", "_`Aa"}, {"[@-Z]", "@[\\]^_`" + letters}, {"[0-_]", span('0', '@') + span('[', '_')}, {"[^0-_]", but(span('0', '@') + span('[', '_'))},
		{"[Y-`]", "`" + letters[:25] + letters[26:51]}, {"[y-{]", "YZyz{"}, {"[Y-{]", "YZyz{"}, {"[Y-[]", "[\\]^_`" + letters[:25] + letters[26:51]}, {"[@-A]", "@[\\]^_`Aa"}, {"[\x00-\xff]", but("")}, {"[^\x00-\xff]", ""}, {"[]", ""}, {"[^]", but("")}, {"[\xc0-\xde]", span(0xc0, 0xde)},
		{"[a-]", "]^_`Aa"}, {"[A-]", "]^_`Aa"},
	} {
		if got, want := standsFor(c.set, true), sorted(c.want); got != want {
			t.Errorf("%q with folding stands for %q; want %q", c.set, got, want)
		}
	}
	checkMatch(t, true, []match{
		{"Key:*", "kEY:x", true}, {"k?Y", "KEy", true}, {"\\KEY", "key", true}, {"key", "kex", false}, {"ä", "Ä", false}, {"[ä]", "\xa4", true}, {"@", "`", false}, {"[", "{", false}, {"\xc4", "\xe4", false}, {"K", "\xe2\x84\xaa", false},
	})
	checkMatch(t, false, []match{{"HELLO", "hello", false}, {"hello", "HELLO", false}, {"[A-C]", "b", false}, {"\\A", "a", false}})
}

// TestP41All holds all short patterns against the chapter's words, at all short texts.
func TestP41All(t *testing.T) {
	asked := texts("aB-]\\", 2)
	for _, fold := range []bool{false, true} {
		for _, p := range texts("*?[]^-\\aAB", 4) {
			for _, text := range asked {
				for _, p := range []string{p, "[" + p} {
					if got, want := Match(p, text, fold), reference(p, text, fold); got != want {
						t.Fatalf("Match(%q, %q, %v) = %v; want %v", p, text, fold, got, want)
					}
				}
			}
		}
	}
	long := texts("ab", 6)
	for _, p := range texts("*?ab", 6) {
		for _, text := range long {
			if got, want := Match(p, text, false), reference(p, text, false); got != want {
				t.Fatalf("Match(%q, %q) = %v; want %v", p, text, got, want)
			}
		}
	}
}

// pattern gives a pattern of steps that often match, and some bytes that may break it.
func (m *mix) pattern(n int) string {
	steps := []string{"*", "*", "*", "?", "?", "a", "A", "b", "[a-c]", "[^b]", "[A-_]", "[^", "[^]", "[]", "[b-]", "\\a", "\\", "[", "]", "^", "-", "\x00", "\xff", "[\x00-\x7f]", "[\x80-\xff]"}
	p := ""
	for range n {
		p += steps[m.below(len(steps))]
	}
	return p
}

// TestP41Mixed holds longer patterns against the chapter's words.
func TestP41Mixed(t *testing.T) {
	m := mix(17)
	bytes := span(0, 255)
	seen := map[bool]int{}
	for range 200000 {
		p := m.pattern(m.below(9))
		if m.below(4) == 0 {
			p += m.text(m.below(6), bytes)
		}
		text := m.text(m.below(10), "aAbBcC]-\\^\x00\xff")
		fold := m.below(2) == 0
		got, want := Match(p, text, fold), reference(p, text, fold)
		if got != want {
			t.Fatalf("Match(%q, %q, %v) = %v; want %v", p, text, fold, got, want)
		}
		seen[got]++
	}
	if seen[true] < 5000 || seen[false] < 5000 {
		t.Errorf("matched and not: %v", seen)
	}
}

// TestP41Quick: patterns of many stars against long texts that almost match. One that tries all that stars can stand for would not end in a lifetime.
func TestP41Quick(t *testing.T) {
	begin := time.Now()
	as := strings.Repeat("a", 20000)
	checkMatch(t, false, []match{
		{strings.Repeat("*a", 500) + "b", as, false},
		{strings.Repeat("*a", 500) + "*b", as, false},
		{strings.Repeat("a*", 500) + "b", as, false},
		{strings.Repeat("*a", 500), as, true},
		{strings.Repeat("*a", 20001), as, false},
		{strings.Repeat("*a", 20000), as, true},
		{strings.Repeat("**a", 300) + "[^a]", as, false},
		{strings.Repeat("*?", 500) + "b", as, false},
		{strings.Repeat("*[ab]", 500) + "c", as, false},
		{strings.Repeat("*ab", 300) + "*c", strings.Repeat("ab", 10000), false},
		{"*" + strings.Repeat("a", 1000) + "b", as, false},
		{"*" + strings.Repeat("?", 1000) + "b", as, false},
		{strings.Repeat("*"+strings.Repeat("a", 99)+"b", 10), strings.Repeat("a", 100000), false},
		{strings.Repeat("*", 100000) + "b", as, false},
		{strings.Repeat("?", 20000), as, true},
		{strings.Repeat("?*", 20000), as, true},
		{strings.Repeat("?*", 20001), as, false},
		{as + "*", as + as, true},
		{"*" + as[:2000], as + "b" + as, true},
	})
	checkMatch(t, true, []match{{strings.Repeat("*A", 500) + "B", as, false}, {strings.Repeat("*A", 500), as, true}})
	if took := time.Since(begin); took > time.Minute {
		t.Errorf("took %v", took)
	}
}

// escaped gives a text with a `\` ahead of each byte.
func escaped(s string) string {
	var b strings.Builder
	for i := range len(s) {
		b.WriteString("\\" + s[i:i+1])
	}
	return b.String()
}

func TestP45(t *testing.T) {
	asked := texts("a*\\[", 4)
	for _, s := range texts("a*\\[", 3) {
		for _, text := range asked {
			checkMatch(t, false, []match{
				{escaped(s), text, text == s},
				{escaped(s) + "*", text, strings.HasPrefix(text, s)},
				{"*" + escaped(s), text, strings.HasSuffix(text, s)},
				{"*", text, true},
			})
		}
	}
	m := mix(19)
	bytes := span(0, 255)
	for range 5000 {
		s, more := m.text(m.below(40), bytes), m.text(1+m.below(3), bytes)
		checkMatch(t, false, []match{
			{escaped(s), s, true}, {escaped(s), s + more, false}, {escaped(s), more + s, false},
			{escaped(s) + "*", s + more, true}, {escaped(s) + "*", more + s, strings.HasPrefix(more+s, s)},
			{"*" + escaped(s), more + s, true}, {"*" + escaped(s), s + more, strings.HasSuffix(s+more, s)},
			{"*", s, true},
		})
		checkMatch(t, true, []match{{escaped(s), Fold(s), true}, {escaped(s) + "*", Fold(s) + more, true}, {"*" + escaped(Fold(s)), more + s, true}, {"*", s, true}})
	}
}

// TestP46: with folding all texts that fold to the same are of a pattern, or none.
func TestP46(t *testing.T) {
	m := mix(23)
	seen := map[bool]int{}
	for range 30000 {
		p := m.pattern(1+m.below(6)) + m.text(m.below(2), "zZ@`[{\xc1\xe1*")
		text := m.text(1+m.below(5), "aAbBzZ@`[{]\xc1\xe1")
		want := Match(p, text, true)
		seen[want]++
		for variant := range 1 << len(text) {
			b := []byte(text)
			for i, c := range b {
				if letter := c|32 >= 'a' && c|32 <= 'z'; letter && variant>>i&1 == 1 {
					b[i] ^= 32
				}
			}
			if got := Match(p, string(b), true); got != want {
				t.Fatalf("Match(%q, %q, true) = %v; of %q it is %v", p, b, got, text, want)
			}
		}
	}
	if seen[true] < 1000 || seen[false] < 1000 {
		t.Errorf("matched and not: %v", seen)
	}
}
