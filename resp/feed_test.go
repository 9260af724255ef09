package resp

import (
	"fmt"
	"slices"
	"strings"
	"testing"

	"cistern/api"
)

type mix uint64

func (m *mix) below(n int) int {
	*m ^= *m << 13
	*m ^= *m >> 7
	*m ^= *m << 17
	return int(uint64(*m) >> 11 % uint64(n))
}

func of[T any](m *mix, list ...T) T { return list[m.below(len(list))] }

func requestsEqual(a, b []api.Request) bool {
	return slices.EqualFunc(a, b, func(x, y api.Request) bool {
		return x.Err == y.Err && slices.Equal(x.Args, y.Args)
	})
}

// short keeps what is told of a failure to a line.
func short(x any) string {
	s := fmt.Sprintf("%q", x)
	if len(s) > 400 {
		return s[:200] + " .. " + s[len(s)-200:]
	}
	return s
}

// fed feeds a new parser with the pieces, and holds what it tells, and Held, against the model behind each of them.
func fed(t *testing.T, pieces ...string) {
	t.Helper()
	p := New()
	if p.Held() != 0 {
		t.Errorf("Held %d of a new parser", p.Held())
	}
	var got []api.Request
	all := ""
	for _, piece := range pieces {
		list := p.Feed(piece)
		for _, r := range list {
			if (r.Err == "") == (len(r.Args) == 0) {
				t.Errorf("%s: a request with the words %q and the error %q", short(pieces), r.Args, r.Err)
			}
		}
		got = append(got, list...)
		all += piece
		want, held := modelFeed(all)
		if !requestsEqual(got, want) || p.Held() != held {
			t.Fatalf("%s: behind %s: %s and Held %d, want %s and %d", short(pieces), short(all), short(got), p.Held(), short(want), held)
		}
	}
}

// everyWay feeds a text whole, cut at each place, in pieces of each size, and with empty pieces between.
func everyWay(t *testing.T, all string) {
	t.Helper()
	fed(t, all)
	for i := range len(all) + 1 {
		fed(t, all[:i], all[i:])
		fed(t, all[:i], "", all[i:], "")
	}
	for size := 1; size < len(all) && size < 9; size++ {
		var pieces []string
		for piece := range slices.Chunk([]byte(all), size) {
			pieces = append(pieces, string(piece))
		}
		fed(t, pieces...)
	}
}

// expect feeds a text whole: the requests are the words, joined by commas, or the error behind a !.
func expect(t *testing.T, all string, want ...string) {
	t.Helper()
	var got []string
	for _, r := range New().Feed(all) {
		if r.Err != "" {
			got = append(got, "!"+r.Err)
		} else {
			got = append(got, strings.Join(r.Args, ","))
		}
	}
	if !slices.Equal(got, want) {
		t.Errorf("%s: %s, want %s", short(all), short(got), short(want))
	}
}

// TestExamplesOfFeed: examples 1 to 3 of the chapter.
func TestExamplesOfFeed(t *testing.T) {
	expect(t, "*2\r\n$3\r\nGET\r\n$1\r\na\r\n", "GET,a")
	p := New()
	if l := p.Feed("*2\r\n$3\r\nGE"); len(l) != 0 || p.Held() != 10 {
		t.Errorf("half a request: %q, Held %d", l, p.Held())
	}
	want := []api.Request{{Args: []string{"GET", "a"}}, {Args: []string{"PING"}}}
	if l := p.Feed("T\r\n$1\r\na\r\nPING\r\n"); !requestsEqual(l, want) || p.Held() != 0 {
		t.Errorf("its other half: %q, Held %d", l, p.Held())
	}
	expect(t, "*0\r\n*-1\r\n\r\n")
	expect(t, "*x\r\n", "!"+wrongCount)
	expect(t, "*x\r\nPING\r\n", "!"+wrongCount)
	expect(t, "*1\r\n:1\r\n", "!Protocol error: expected '$', got ':'")
	expect(t, "set a \"b c\\x41\"\n", "set,a,b cA")
	expect(t, "a \"b\n", "!"+wrongQuotes)
}

// TestP12_1CutAnywhere: requests of both sorts, one behind the other.
func TestP12_1CutAnywhere(t *testing.T) {
	for _, all := range []string{
		"*2\r\n$3\r\nGET\r\n$1\r\na\r\nPING\r\n*1\r\n$4\r\nPING\r\n",
		"PING\n*1\n$4\nPING\r\nget 'a b'\r\n*0\r\n\r\n \t\r\n*-5\nx\n",
		"*3\r\n$0\r\n\r\n$2\r\n\r\n\r\n$5\r\n*1\r\n$\r\nSET \"\\x0a\\n\" ''\r\n*1\r\n$1\r\n\x00\x00\x00",
		"a\r\n*1\r\n$3\r\nabc\r\n*x\r\nPING\r\n*1\r\n$4\r\nPING\r\n",
		"*2\r\n$1\r\na\r\n$-1\r\nPING\r\n",
		"*2\r\n$1\r\na\r\n1\r\nPING\r\n",
		"a\n\"a\"b\nPING\n",
		"\n\n\r\n\r\r\na\rb\n",
		"*\n",
		"*1\n$\n",
		" *1\r\n$1\r\n",
		"*1\r\n$2\r\nab\n\n*1\r\n$2\r\nab$1*1\r\n$1\r\na\n*1",
		"*11\r\n" + strings.Repeat("$1\r\nx\r\n", 11) + "quit\r\n",
	} {
		everyWay(t, all)
	}
}

// TestP12_1Counts: the number of words; behind a request that is over the next one is read.
func TestP12_1Counts(t *testing.T) {
	for _, end := range []string{"\r\n", "\n"} {
		for n := 1; n < 4; n++ {
			all := fmt.Sprintf("*%d%s%sPING\n", n, end, strings.Repeat("$1"+end+"a\r\n", n))
			expect(t, all, strings.Repeat(",a", n)[1:], "PING")
			everyWay(t, all)
		}
		for _, count := range []string{"0", "-1", "-2", "-1048577", "-9223372036854775808"} {
			expect(t, "*"+count+end+"PING\n", "PING")
			everyWay(t, "*"+count+end+"PING\n")
		}
		for _, count := range []string{"1048577", "9223372036854775807", "9223372036854775808", "-9223372036854775809", "", "-", "-0", "+1", "01", " 1", "1 ", "1\r\r", "\r", "0x1", "*1", "$1", "1\x00", "1.0", "1e1", "1_0", "\xff"} {
			expect(t, "*"+count+end+"PING\n", "!"+wrongCount)
			everyWay(t, "*"+count+end+"PING\n")
		}
	}
}

// TestP12_1Lengths: the number of a word's bytes.
func TestP12_1Lengths(t *testing.T) {
	for _, end := range []string{"\r\n", "\n"} {
		for n := range 4 {
			all := fmt.Sprintf("*2\n$%d%s%s\r\n$1\nz..PING\n", n, end, "abc"[:n])
			expect(t, all, "abc"[:n]+",z", "PING")
			everyWay(t, all)
		}
		for _, length := range []string{"-1", "-2", "524289", "9223372036854775807", "9223372036854775808", "-9223372036854775808", "", "-", "-0", "+1", "01", " 1", "1 ", "1\r\r", "\r", "0x1", "*1", "$1", "1\x00", "\xff"} {
			all := "*2\r\n$1\r\na\r\n$" + length + end + "PING\n"
			expect(t, all, "!"+wrongLength)
			everyWay(t, all)
		}
	}
}

// TestP12_1NoWord: the first byte of a word's line, told as soon as it has come.
func TestP12_1NoWord(t *testing.T) {
	for b := range 256 {
		if b == '$' {
			continue
		}
		first := string([]byte{byte(b)})
		for _, ahead := range []string{"*1\r\n", "*2\n$1\n\n\n\n"} {
			p := New()
			if l := p.Feed(ahead); len(l) != 0 || p.Held() != len(ahead) {
				t.Errorf("%q: %q, Held %d", ahead, l, p.Held())
			}
			want := []api.Request{{Err: "Protocol error: expected '$', got '" + first + "'"}}
			if l := p.Feed(first); !requestsEqual(l, want) || p.Held() != 0 {
				t.Errorf("%q %q: %q, Held %d", ahead, first, l, p.Held())
			}
			expect(t, ahead+first, "!"+want[0].Err)
			expect(t, ahead+first+strings.Repeat("1", 99)+"\r\n", "!"+want[0].Err)
		}
	}
}

// TestP12_1LongLines: lines that tell numbers with 64 and 65 bytes, and no byte 10 among them.
func TestP12_1LongLines(t *testing.T) {
	for _, c := range []struct{ ahead, mark, long, wrong string }{
		{"", "*", tooBigCount, wrongCount},
		{"*1\r\n", "$", tooBigLength, wrongLength},
		{"*2\r\n$3\r\nabc\r\n", "$", tooBigLength, wrongLength},
	} {
		for _, fill := range []string{"1", "x", "\r", "$", "*"} {
			line := c.mark + strings.Repeat(fill, 63)
			for _, pieces := range [][]string{{c.ahead + line}, {c.ahead, line}, append([]string{c.ahead}, strings.Split(line, "")...)} {
				p := New()
				for _, piece := range pieces {
					if l := p.Feed(piece); len(l) != 0 {
						t.Fatalf("64 bytes: %q", l)
					}
				}
				if p.Held() != len(c.ahead)+64 {
					t.Errorf("Held %d with 64 bytes", p.Held())
				}
				if l := p.Feed("x"); !requestsEqual(l, []api.Request{{Err: c.long}}) || p.Held() != 0 {
					t.Errorf("the byte 65: %q, Held %d", l, p.Held())
				}
				if l := p.Feed("\nPING\n"); len(l) != 0 || p.Held() != 0 {
					t.Errorf("behind the error: %q, Held %d", l, p.Held())
				}
			}
			// The byte 10 is the one behind 62, 63, 64 and 65 others.
			for n := 62; n < 66; n++ {
				all := c.ahead + c.mark + strings.Repeat(fill, n-1) + "\nPING\n"
				want := c.wrong
				if n > 64 {
					want = c.long
				}
				expect(t, all, "!"+want)
				everyWay(t, all)
			}
			expect(t, c.ahead+line+"x", "!"+c.long)
			expect(t, c.ahead+line)
		}
	}
}

// TestP12_1LongInline: lines of words with MaxInline bytes and one more.
func TestP12_1LongInline(t *testing.T) {
	line := strings.Repeat("a", api.MaxInline)
	expect(t, line)
	expect(t, line+"\n", line)
	expect(t, line+"\nb\n", line, "b")
	expect(t, line[1:]+"\r\n", line[1:])
	expect(t, line+"\r\n", "!"+tooBigLine)
	expect(t, line+"a", "!"+tooBigLine)
	expect(t, line+"a\n", "!"+tooBigLine)
	expect(t, strings.Repeat(" ", api.MaxInline)+"\nb\n", "b")
	expect(t, strings.Repeat(" ", api.MaxInline+1)+"\nb\n", "!"+tooBigLine)
	expect(t, "\""+line[1:]+"\"\n", "!"+tooBigLine)
	p, words := New(), strings.Repeat("ab ", api.MaxInline/3)
	for i := range len(words) {
		if l := p.Feed(words[i : i+1]); len(l) != 0 || p.Held() != i+1 {
			t.Fatalf("byte %d: %q, Held %d", i, l, p.Held())
		}
	}
	if l := p.Feed("\n"); len(l) != 1 || len(l[0].Args) != api.MaxInline/3 || p.Held() != 0 {
		t.Errorf("a line come byte by byte: %s, Held %d", short(l), p.Held())
	}
	for i := range len(line) {
		if l := p.Feed("a"); len(l) != 0 || p.Held() != i+1 {
			t.Fatalf("byte %d: %q, Held %d", i, l, p.Held())
		}
	}
	if l := p.Feed("a"); !requestsEqual(l, []api.Request{{Err: tooBigLine}}) || p.Held() != 0 {
		t.Errorf("one byte more: %s, Held %d", short(l), p.Held())
	}
	if l := p.Feed("\na\n*1\r\n$1\r\na\r\n"); len(l) != 0 || p.Held() != 0 {
		t.Errorf("behind the error: %q, Held %d", l, p.Held())
	}
}

// TestP12_1Inline: lines of words.
func TestP12_1Inline(t *testing.T) {
	for all, want := range map[string][]string{
		"a b\n":                    {"a,b"},
		"a b\r\n":                  {"a,b"},
		"a\rb\r\n":                 {"a,b"},
		"\ra\r\r\n":                {"a"},
		"\n \n\t\v\f\r\n \r \na\n": {"a"},
		"a\nb\r\nc":                {"a", "b"},
		"$1\r\na\r\n":              {"$1", "a"},
		" *1\r\n":                  {"*1"},
		"''\n":                     {""},
		"'' \"\" a\n":              {",,a"},
		"'a\rb'\n":                 {"a\rb"},
		"'a\r\n":                   {"!" + wrongQuotes},
		"'a\nb'\n":                 {"!" + wrongQuotes},
		"a \"\n":                   {"!" + wrongQuotes},
		"a \"b\"c\n":               {"!" + wrongQuotes},
		"\"a\\\"\nb\n":             {"!" + wrongQuotes},
		"a\n'b\nc\n":               {"a", "!" + wrongQuotes},
		"\x00\xff\n":               {"\x00\xff"},
	} {
		expect(t, all, want...)
		everyWay(t, all)
	}
}

// TestP12_1Ends: the two bytes behind a word, whatever they are.
func TestP12_1Ends(t *testing.T) {
	for b := range 256 {
		for _, end := range []string{string([]byte{byte(b), '\n'}), string([]byte{'\r', byte(b)}), string([]byte{byte(b), byte(b)})} {
			expect(t, "*2\r\n$1\r\na"+end+"$0\r\n"+end+"PING\r\n", "a,", "PING")
		}
	}
	everyWay(t, "*2\r\n$1\r\na\n\n$0\r\n*1*1\r\n$1\r\nb$1PING\r\n")
}

// TestP12_1BehindAnError: all bytes are taken, nothing is told, and nothing is held, whichever the error was.
func TestP12_1BehindAnError(t *testing.T) {
	for _, broken := range []string{"*x\n", "*1\n+", "*1\n$-1\n", "*" + strings.Repeat("1", 64), "*1\n$" + strings.Repeat("1", 64), "'\n", strings.Repeat("x", api.MaxInline+1)} {
		p := New()
		l := p.Feed("a\n" + broken + "b\n*1\r\n")
		if len(l) != 2 || len(l[0].Args) != 1 || l[1].Err == "" || len(l[1].Args) != 0 || p.Held() != 0 {
			t.Errorf("%s: %s, Held %d", short(broken), short(l), p.Held())
		}
		for _, piece := range []string{"", "\n", "PING\n", "*1\r\n$4\r\nPING\r\n", "*x\r\n", "*", strings.Repeat("y", api.MaxInline+1)} {
			if l := p.Feed(piece); len(l) != 0 || p.Held() != 0 {
				t.Errorf("%s: behind it %s: %s, Held %d", short(broken), short(piece), short(l), p.Held())
			}
		}
	}
}

// TestP12_1ManyWords: MaxArgs words and one more.
func TestP12_1ManyWords(t *testing.T) {
	t.Parallel()
	const word = "$0\r\n\r\n"
	p := New()
	if l := p.Feed(fmt.Sprintf("*%d\r\n", api.MaxArgs) + strings.Repeat(word, api.MaxArgs-1) + word[:5]); len(l) != 0 {
		t.Fatalf("%d requests, and the last byte has not come", len(l))
	}
	if want := len("*1048576\r\n") + len(word)*api.MaxArgs - 1; p.Held() != want {
		t.Errorf("Held %d, want %d", p.Held(), want)
	}
	l := p.Feed("\nPING\n")
	if len(l) != 2 || len(l[0].Args) != api.MaxArgs || slices.Max(l[0].Args) != "" || len(l[1].Args) != 1 || p.Held() != 0 {
		t.Errorf("%d requests, Held %d", len(l), p.Held())
	}
	expect(t, fmt.Sprintf("*%d\r\n", api.MaxArgs))
	expect(t, fmt.Sprintf("*%d\r\n", api.MaxArgs+1), "!"+wrongCount)
}

// TestP12_1LongWords: words of MaxElement bytes and one more, and MaxRequest bytes together and one more.
func TestP12_1LongWords(t *testing.T) {
	t.Parallel()
	word := strings.Repeat("0123456789abcdef", api.MaxElement/16)
	long := fmt.Sprintf("$%d\r\n%s\r\n", len(word), word)
	expect(t, "*1\r\n"+long, word)
	expect(t, fmt.Sprintf("*1\r\n$%d\r\n", len(word)+1), "!"+wrongLength)
	const n = api.MaxRequest / api.MaxElement
	all := strings.Repeat(long, n)
	for _, c := range []struct {
		count  int
		behind string
		words  int
		err    string
	}{
		{n, "", n, ""},
		{n + 1, "$0\r\n\r\n", n + 1, ""},
		{n + 3, "$0\r\n\r\n$0\r\n\r\n$0\r\n\r\n", n + 3, ""},
		{n + 1, "$1\r\n", 0, wrongLength},
		{n + 2, "$0\r\n\r\n$1\r\n", 0, wrongLength},
		{n + 1, "$524288\r\n", 0, wrongLength},
	} {
		p := New()
		l := p.Feed(fmt.Sprintf("*%d\r\n", c.count) + all + c.behind)
		if len(l) != 1 || l[0].Err != c.err || len(l[0].Args) != c.words || p.Held() != 0 {
			t.Errorf("%q: %d requests, Held %d", c.behind, len(l), p.Held())
		}
		for i, w := range l[0].Args {
			if i < n && w != word || i >= n && w != "" {
				t.Errorf("%q: word %d is another one", c.behind, i)
			}
		}
	}
	// One byte fewer, and then as many as are left; the bytes of the request ahead are not counted.
	p := New()
	p.Feed(fmt.Sprintf("*%d\r\n", n) + all)
	less := fmt.Sprintf("*%d\r\n$%d\r\n%s\r\n", n+1, len(word)-1, word[1:]) + all[len(long):]
	for _, c := range []struct {
		behind, err string
		words       int
	}{{"$1\r\nz\r\n", "", n + 1}, {"$2\r\n", wrongLength, 0}} {
		if l := p.Feed(less + c.behind); len(l) != 1 || l[0].Err != c.err || len(l[0].Args) != c.words {
			t.Errorf("%q: %d requests", c.behind, len(l))
		}
	}
}

// TestP12_1ByteByByte: a long word that comes so is taken without going through all that is held for each byte.
func TestP12_1ByteByByte(t *testing.T) {
	t.Parallel()
	p := New()
	head := "*2\r\n$524288\r\n"
	p.Feed(head)
	for i := range api.MaxElement {
		if l := p.Feed("x"); len(l) != 0 || p.Held() != len(head)+i+1 {
			t.Fatalf("byte %d: %d requests, Held %d", i, len(l), p.Held())
		}
	}
	l := p.Feed("\r\n$0\r\n\r\n")
	if len(l) != 1 || !slices.Equal(l[0].Args, []string{strings.Repeat("x", api.MaxElement), ""}) || p.Held() != 0 {
		t.Errorf("%d requests, Held %d", len(l), p.Held())
	}
}

// TestP12_1Held: within a request, behind one, and behind one that is over and was not told.
func TestP12_1Held(t *testing.T) {
	p := New()
	for _, c := range []struct {
		piece string
		told  int
		held  int
	}{
		{"", 0, 0}, {"PI", 0, 2}, {"NG\r", 0, 5}, {"", 0, 5}, {"\n", 1, 0},
		{"\r", 0, 1}, {"\n", 0, 0}, {" ", 0, 1}, {"\n  ", 0, 2}, {"\n", 0, 0},
		{"*", 0, 1}, {"0\r", 0, 3}, {"\n", 0, 0}, {"*-1\n*", 0, 1}, {"1", 0, 2}, {"\r\n", 0, 4}, {"$", 0, 5}, {"2\r\n", 0, 8}, {"ab", 0, 10}, {"\r", 0, 11}, {"\n", 1, 0},
		{"a\nb\nc\n*1\r\n$1\r\na\r\nd", 4, 1}, {"\n*2\r\n$1\r\na\r\n", 1, 11}, {"$1\r\nb\r\n", 1, 0},
		{"'\n", 1, 0}, {"PING\n", 0, 0}, {"P", 0, 0},
	} {
		if l := p.Feed(c.piece); len(l) != c.told || p.Held() != c.held || p.Held() != c.held {
			t.Fatalf("%q: %q and Held %d, want %d and %d", c.piece, l, p.Held(), c.told, c.held)
		}
	}
}

// stream: requests of both sorts and broken ones, one behind the other; now and then a byte of them is another one.
func (m *mix) stream() string {
	var b strings.Builder
	for range 1 + m.below(8) {
		switch m.below(8) {
		case 0, 1, 2:
			var words []string
			for range m.below(4) {
				words = append(words, m.word())
			}
			b.WriteString(Command(words...))
		case 3, 4:
			for range m.below(5) {
				b.WriteString(of(m, "a", "GET", " ", "\t", "''", `"a b"`, `'\''`, `"\x41\n"`, " x", "  y ", "\r"))
			}
			b.WriteString(of(m, "\n", "\r\n"))
		case 5:
			b.WriteString(of(m, "*0\r\n", "*-1\r\n", "\r\n", "\n", "*-7\n"))
		case 6:
			n := m.below(4)
			fmt.Fprintf(&b, "*%d\n", n)
			for range n {
				w := m.word()
				fmt.Fprintf(&b, "$%d%s%s%s", len(w), of(m, "\n", "\r\n"), w, of(m, "\r\n", "xx", "\n\n", "*1"))
			}
		case 7:
			b.WriteString(of(m, "PING\r\n", "a b c\n", "*1\r\n$4\r\nPING\r\n", "*1\r\n$0\r\n\r\n"))
		}
	}
	all := []byte(b.String())
	if len(all) > 0 && m.below(3) == 0 {
		all[m.below(len(all))] = of[byte](m, '\r', '\n', '*', '$', '0', '1', '9', '-', ' ', '"', '\'', '\\', 0, 255)
	}
	return string(all)
}

func (m *mix) word() string {
	return of(m, "", "a", "GET", "a b", "\r\n", "\n", "*1\r\n$1\r\n", "$", "\x00\xff", strings.Repeat("x", m.below(80)))
}

// TestP12_1Mixed: streams of all sorts, cut at random.
func TestP12_1Mixed(t *testing.T) {
	t.Parallel()
	m := mix(12)
	for range 30000 {
		all := m.stream()
		var pieces []string
		for rest := all; rest != ""; {
			n := min(len(rest), of(&m, 1, 2, 3, 7, 20, 1000, m.below(5)))
			pieces = append(pieces, rest[:n])
			rest = rest[n:]
		}
		fed(t, pieces...)
	}
}
