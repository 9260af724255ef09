package resp

import (
	"fmt"
	"slices"
	"strings"
	"testing"
)

func splits(t *testing.T, line string, want ...string) {
	t.Helper()
	if got, ok := Split(line); !ok || !slices.Equal(got, want) {
		t.Errorf("Split(%q) = %q, %v, want %q", line, got, ok, want)
	}
}

func failsToSplit(t *testing.T, line string) {
	t.Helper()
	if got, ok := Split(line); ok || got != nil {
		t.Errorf("Split(%q) = %q, %v, want nil and false", line, got, ok)
	}
}

// TestP12_2Blanks: which bytes divide words, and which do not.
func TestP12_2Blanks(t *testing.T) {
	splits(t, "")
	splits(t, "a", "a")
	splits(t, "\x00", "\x00")
	for b := range 256 {
		x := string([]byte{byte(b)})
		switch b {
		case 32, 9, 10, 11, 12, 13:
			splits(t, x)
			splits(t, x+x+x)
			splits(t, "a"+x+"b", "a", "b")
			splits(t, x+"a"+x+x+"b"+x, "a", "b")
			splits(t, "'a"+x+"b' \"c"+x+"\"", "a"+x+"b", "c"+x)
			splits(t, "''"+x+"\"\""+x, "", "")
		case '"', '\'':
			failsToSplit(t, x)
			failsToSplit(t, "a"+x+"b")
		default:
			splits(t, x, x)
			splits(t, "a"+x+"b c", "a"+x+"b", "c")
			splits(t, "'"+x+"x' \"y\"", x+"x", "y")
			failsToSplit(t, "'a'"+x)
			failsToSplit(t, "\"a\""+x+" b")
		}
	}
}

// TestP12_2Quotes: where quotes stand, and what is behind them.
func TestP12_2Quotes(t *testing.T) {
	splits(t, `'a\'b' c`, "a'b", "c")
	splits(t, `""`, "")
	splits(t, `''`, "")
	splits(t, `"" '' a ""`, "", "", "a", "")
	splits(t, `a"b c" d`, "ab c", "d")
	splits(t, `a'b c' d`, "ab c", "d")
	splits(t, `a""`, "a")
	splits(t, `a''`, "a")
	splits(t, `"it's" '"'`, "it's", `"`)
	splits(t, "\"a\"\t'b'\v\"c\"\f'd'\r\"e\"\n", "a", "b", "c", "d", "e")
	for _, line := range []string{`"`, `'`, `"a`, `'a`, `a "`, `a '`, `"a' b`, `'a" b`, `"a"b`, `'a'b`, `"a""b"`, `"a"'b'`, `'a'"b"`, `'a''b'`, `a"b"c`, `a'b'c`, `""a`, `a b "c" "d"e`, `"a"\`, `'a'\ `, `x"`, `"a" '`} {
		failsToSplit(t, line)
	}
}

// TestP12_2Escapes: every byte behind a backslash, in both quotes and outside.
func TestP12_2Escapes(t *testing.T) {
	named := map[byte]string{'n': "\n", 'r': "\r", 't': "\t", 'b': "\x08", 'a': "\x07"}
	for b := range 256 {
		x := string([]byte{byte(b)})
		want, ok := named[byte(b)]
		if !ok {
			want = x
		}
		splits(t, `"\`+x+`" z`, want, "z")
		splits(t, `"p\`+x+`q" z`, "p"+want+"q", "z")
		if b == '\'' {
			splits(t, `'p\'q' z`, "p'q", "z")
			failsToSplit(t, `'\'`)
		} else {
			splits(t, `'p\`+x+`q' z`, `p\`+x+`q`, "z")
		}
		if !strings.Contains(" \t\n\v\f\r\"'", x) {
			splits(t, `p\`+x+`q z`, `p\`+x+`q`, "z")
		}
	}
	splits(t, `\`, `\`)
	splits(t, `a\ b`, `a\`, "b")
	splits(t, `\"a"`, `\a`)
	splits(t, `"a\\" b`, `a\`, "b")
	splits(t, `"\\\"" b`, `\"`, "b")
	splits(t, `'a\b'`, `a\b`)
	splits(t, `'\\\''`, `\\'`)
	splits(t, `'\\a'`, `\\a`)
	for _, line := range []string{`"\`, `'\`, `"a\"`, `"a\\\"`, `'a\'`, `'a\\'`, `"\x41`, `"\x`, `"\x4`, `"\"`} {
		failsToSplit(t, line)
	}
}

// TestP12_2Hexadecimal: \x with all digits, and with too few.
func TestP12_2Hexadecimal(t *testing.T) {
	for n := range 256 {
		want := string([]byte{byte(n)})
		splits(t, fmt.Sprintf(`"a\x%02xb" z`, n), "a"+want+"b", "z")
		splits(t, fmt.Sprintf(`"\x%02X"`, n), want)
		splits(t, fmt.Sprintf(`'\x%02x'`, n), fmt.Sprintf(`\x%02x`, n))
		for _, c := range "0fF" {
			x := string([]byte{byte(n)})
			if strings.Contains(`0123456789abcdefABCDEF"\`, x) {
				continue
			}
			splits(t, `"\x`+x+string(c)+`"`, "x"+x+string(c))
			splits(t, `"\x`+string(c)+x+`"`, "x"+string(c)+x)
		}
	}
	splits(t, `"\xfA\xAf\x00"`, "\xfa\xaf\x00")
	splits(t, `"\x"`, "x")
	splits(t, `"\x4"`, "x4")
	splits(t, `"\x4" a`, "x4", "a")
	splits(t, `"\x4\x41"`, "x4A")
	splits(t, `"\x\x41"`, "xA")
	splits(t, `"\x414"`, "A4")
	splits(t, `"\X41"`, "X41")
	splits(t, `"\\x41"`, `\x41`)
	splits(t, `"\x22" b`, `"`, "b")
	splits(t, `"\x5c"`, `\`)
	splits(t, `"\x+1\x-1\x 1\x_1\x0x"`, "x+1x-1x 1x_1x0x")
	splits(t, `\x41`, `\x41`)
}

// TestP12_2All: all lines of up to seven of the bytes that matter, held against the model.
func TestP12_2All(t *testing.T) {
	t.Parallel()
	var line [7]byte
	var walk func(n int)
	walk = func(n int) {
		s := string(line[:n])
		got, ok := Split(s)
		want, can := modelSplit(s)
		if ok != can || !slices.Equal(got, want) {
			t.Errorf("Split(%q) = %q, %v, want %q, %v", s, got, ok, want, can)
		}
		if n == len(line) || t.Failed() {
			return
		}
		for _, b := range []byte(`"'\x4 a`) {
			line[n] = b
			walk(n + 1)
		}
	}
	walk(0)
}

// TestP12_2Mixed: longer lines of all bytes.
func TestP12_2Mixed(t *testing.T) {
	t.Parallel()
	m := mix(7)
	for range 200000 {
		var b strings.Builder
		for range m.below(12) {
			b.WriteString(of(&m, " ", "\t", "\n", "\v", "\f", "\r", `"`, `"`, `'`, `'`, `\`, `\"`, `\'`, `\x`, `\x4`, `\x41`, `\xfF`, `\n`, "n", "a", "bc", "é", "\xff", string([]byte{byte(m.below(256))})))
		}
		got, ok := Split(b.String())
		want, can := modelSplit(b.String())
		if ok != can || !slices.Equal(got, want) {
			t.Fatalf("Split(%q) = %q, %v, want %q, %v", b.String(), got, ok, want, can)
		}
	}
}

// TestP12_2Long: a line much longer than a request's.
func TestP12_2Long(t *testing.T) {
	word := strings.Repeat("x", 1<<20)
	splits(t, word+" '"+word+"' \""+word+"\"", word, word, word)
	if l, ok := Split(strings.Repeat("a ", 1<<20)); !ok || len(l) != 1<<20 {
		t.Errorf("%d words, %v", len(l), ok)
	}
	failsToSplit(t, strings.Repeat("a ", 1<<20)+"'")
}
