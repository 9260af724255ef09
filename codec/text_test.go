package codec

import (
	"math"
	"strings"
	"testing"

	"cistern/api"
	"cistern/lzf"
)

// TestMaxBlob: CO1.
func TestMaxBlob(t *testing.T) {
	if MaxBlob != 67108864 {
		t.Errorf("MaxBlob is %d", MaxBlob)
	}
}

// unlike is a text of so many bytes in which no three stand twice.
func unlike(n int) string {
	var b strings.Builder
	for i := 0; b.Len() < n; i++ {
		b.WriteString(string([]byte{byte(i >> 8), byte(i), byte(128 + i%128)}))
	}
	return b.String()[:n]
}

// TestPutTextPlain: texts that are no numbers, and too short, or not to be packed.
func TestPutTextPlain(t *testing.T) {
	cases := []struct {
		s, want string
	}{
		{"", "\x00"},
		{"a", "\x01a"},
		{"hello", "\x05hello"},
		{strings.Repeat("a", 20), "\x14" + strings.Repeat("a", 20)},
		{unlike(21), "\x15" + unlike(21)},
		{unlike(63), "\x3f" + unlike(63)},
		{unlike(64), "\x40\x40" + unlike(64)},
		{"007", "\x03007"}, {"+1", "\x02+1"}, {"-0", "\x02-0"}, {" 1", "\x02 1"}, {"1 ", "\x021 "},
		{"00", "\x0200"}, {"-", "\x01-"}, {"--1", "\x03--1"}, {"-01", "\x03-01"}, {"1.0", "\x031.0"},
		{"1e3", "\x031e3"}, {"0x1", "\x030x1"}, {"1_0", "\x031_0"}, {"1\x00", "\x021\x00"}, {"\xff\x00\xc3", "\x03\xff\x00\xc3"},
		{"2147483648", "\x0a2147483648"}, {"-2147483649", "\x0b-2147483649"}, {"12345678901", "\x0b12345678901"},
		{"9223372036854775807", "\x139223372036854775807"}, {"-9223372036854775808", "\x14-9223372036854775808"},
		{"9223372036854775808", "\x139223372036854775808"}, {"00000000000000000012", "\x1400000000000000000012"},
	}
	for _, c := range cases {
		for _, compress := range []bool{false, true} {
			if got := PutText(c.s, compress); got != c.want {
				t.Errorf("PutText(%q, %t) = %q; want %q", c.s, compress, got, c.want)
			}
		}
	}
}

// TestPutTextNumbers: the edges of each form.
func TestPutTextNumbers(t *testing.T) {
	cases := []struct {
		s, want string
	}{
		{"12", "\xc0\x0c"}, {"0", "\xc0\x00"}, {"-1", "\xc0\xff"}, {"127", "\xc0\x7f"}, {"-128", "\xc0\x80"},
		{"128", "\xc1\x80\x00"}, {"-129", "\xc1\x7f\xff"}, {"32767", "\xc1\xff\x7f"}, {"-32768", "\xc1\x00\x80"},
		{"32768", "\xc2\x00\x80\x00\x00"}, {"-32769", "\xc2\xff\x7f\xff\xff"},
		{"2147483647", "\xc2\xff\xff\xff\x7f"}, {"-2147483648", "\xc2\x00\x00\x00\x80"},
	}
	for _, c := range cases {
		for _, compress := range []bool{false, true} {
			if got := PutText(c.s, compress); got != c.want {
				t.Errorf("PutText(%q, %t) = %q; want %q", c.s, compress, got, c.want)
			}
		}
		if got, n, e := Text(c.want + "\x00"); got != c.s || n != len(c.want) || e != api.OK {
			t.Errorf("Text(%q ..) = %q, %d, %d", c.want, got, n, e)
		}
	}
}

// TestPutTextPacked: with compress alone, above 20 bytes, where lzf.Pack finds something.
func TestPutTextPacked(t *testing.T) {
	texts := []string{
		strings.Repeat("a", 21), strings.Repeat("a", 22), strings.Repeat("1", 21), strings.Repeat("ab", 32), strings.Repeat(unlike(70), 3),
		strings.Repeat("0", 64), unlike(63) + strings.Repeat("x", 63), strings.Repeat("a", 1<<14), strings.Repeat("a", api.MaxElement-1), strings.Repeat("a", api.MaxElement),
		strings.Repeat(unlike(4000), 100), unlike(4000) + unlike(1000),
	}
	for _, s := range texts {
		p, ok := lzf.Pack(s)
		if !ok {
			t.Fatalf("%s is not packed", short(s))
		}
		if got := PutText(s, true); got != packed(p, len(s)) {
			t.Errorf("PutText(%s, true) = %s", short(s), short(got))
		}
		if got := PutText(s, false); got != plain(s) {
			t.Errorf("PutText(%s, false) = %s", short(s), short(got))
		}
	}
}

// TestPutTextNotPacked: above MaxElement, and where lzf.Pack finds nothing.
func TestPutTextNotPacked(t *testing.T) {
	for _, s := range []string{unlike(21), unlike(22), unlike(100), unlike(5000), strings.Repeat("a", api.MaxElement+1), strings.Repeat("a", MaxBlob), strings.Repeat("a", MaxBlob+1)} {
		if _, ok := lzf.Pack(s); ok {
			t.Fatalf("%s is packed", short(s))
		}
		for _, compress := range []bool{false, true} {
			if got := PutText(s, compress); got != plain(s) {
				t.Errorf("PutText(%s, %t) = %s", short(s), compress, short(got))
			}
		}
	}
}

// someTexts are texts of all sorts.
func someTexts() []string {
	m := mix(7)
	texts := []string{"", "a", "hello", "12", "-1", "007", "+1", "-0", " 1", "127", "128", "-128", "-129", "32767", "32768", "2147483647", "2147483648", "-2147483648", "-2147483649", "9223372036854775807"}
	for _, n := range []int{1, 2, 19, 20, 21, 22, 63, 64, 65, 300, 5000, 16383, 16384, api.MaxElement - 1, api.MaxElement} {
		texts = append(texts, strings.Repeat("a", n), unlike(n), m.text(n, 2), m.text(n, 26))
	}
	return texts
}

// TestTextBack: Text of what PutText writes, with anything behind it, and of each beginning of it.
func TestTextBack(t *testing.T) {
	for _, s := range someTexts() {
		for _, compress := range []bool{false, true} {
			p := PutText(s, compress)
			for _, behind := range []string{"", "\x00", "\xff", "a", "\xc3\x05", p[:min(len(p), 99)]} {
				if got, n, e := Text(p + behind); got != s || n != len(p) || e != api.OK {
					t.Fatalf("Text(%s and %q) = %s, %d, %d; want %s, %d", short(p), behind, short(got), n, e, short(s), len(p))
				}
			}
			for n := range len(p) {
				if n > 40 && n < len(p)-40 {
					continue
				}
				if got, size, e := Text(p[:n]); got != "" || size != 0 || e != api.ErrShort {
					t.Fatalf("Text(%s) = %s, %d, %d; want ErrShort", short(p[:n]), short(got), size, e)
				}
			}
		}
	}
}

// TestTextLong: a plain text may have up to MaxBlob bytes.
func TestTextLong(t *testing.T) {
	for _, n := range []int{api.MaxElement + 1, MaxBlob - 1, MaxBlob} {
		p := plain(strings.Repeat("x", n))
		if got, size, e := Text(p + "y"); len(got) != n || size != len(p) || e != api.OK {
			t.Errorf("%d bytes: %d, %d, %d", n, len(got), size, e)
		}
		if _, _, e := Text(p[:len(p)-1]); e != api.ErrShort {
			t.Errorf("%d bytes, one missing: %d", n, e)
		}
	}
	for _, p := range []string{length(MaxBlob + 1), length(MaxBlob+1) + "x", plain(strings.Repeat("x", MaxBlob+1)), length(math.MaxUint32), length(1 << 32), length(1 << 62)} {
		if got, size, e := Text(p); got != "" || size != 0 || e != api.ErrLong {
			t.Errorf("Text(%s): %d, %d, %d; want ErrLong", short(p), len(got), size, e)
		}
	}
}

// faulty is what a text, or a value, is refused for.
type faulty struct {
	name, s string
	want    api.Errno
}

func checkFaults(t *testing.T, cases []faulty) {
	t.Helper()
	for _, c := range cases {
		if got, n, e := Text(c.s); got != "" || n != 0 || e != c.want {
			t.Errorf("%s: Text(%s) = %s, %d, %d; want %d", c.name, short(c.s), short(got), n, e, c.want)
		}
	}
}

// TestTextForm: first bytes, lengths and numbers that are none.
func TestTextForm(t *testing.T) {
	zeros := strings.Repeat("\x00", 99)
	checkFaults(t, []faulty{
		{"nothing", "", api.ErrShort},
		{"63 in two bytes", "\x40\x3f" + zeros, api.ErrForm},
		{"0 in two bytes", "\x40\x00" + zeros, api.ErrForm},
		{"16383 in five bytes", "\x80\x00\x00\x3f\xff" + strings.Repeat("x", 16383), api.ErrForm},
		{"2^32 - 1 in nine bytes", "\x81\x00\x00\x00\x00\xff\xff\xff\xff" + zeros, api.ErrForm},
		{"above 2^62", "\x81\x40\x00\x00\x00\x00\x00\x00\x01" + zeros, api.ErrForm},
		{"the greatest bytes", "\x81\xff\xff\xff\xff\xff\xff\xff\xff" + zeros, api.ErrForm},
		{"a length that ends", "\x40", api.ErrShort},
		{"one of five bytes that ends", "\x80\x00\x00\x00", api.ErrShort},
		{"one of nine bytes that ends", "\x81\xff\xff\xff\xff\xff\xff\xff", api.ErrShort},
		{"a number without bytes", "\xc0", api.ErrShort},
		{"one of 16 bits that ends", "\xc1\x01", api.ErrShort},
		{"one of 32 bits that ends", "\xc2\x00\x00\x00", api.ErrShort},
		{"1 in 16 bits", "\xc1\x01\x00", api.ErrForm},
		{"-128 in 16 bits", "\xc1\x80\xff", api.ErrForm},
		{"128 in 32 bits", "\xc2\x80\x00\x00\x00", api.ErrForm},
		{"32767 in 32 bits", "\xc2\xff\x7f\x00\x00", api.ErrForm},
	})
}

// TestTextFirstByte: each first byte, alone and with many bytes behind it.
func TestTextFirstByte(t *testing.T) {
	for first := range 256 {
		begin := string([]byte{byte(first)})
		for _, behind := range []string{"", "\x00", "\x01", "\x7f", "\xff", strings.Repeat("\x00", 100), strings.Repeat("\x01", 100), strings.Repeat("\x80", 300), strings.Repeat("\xff", 99)} {
			checkText(t, begin+behind)
		}
		_, _, e := Text(begin + strings.Repeat("\x00", 99))
		isForm := first == 0x40 || first == 0x80 || first == 0x81 || first >= 0x82 && first <= 0xbf || first == 0xc1 || first == 0xc2 || first >= 0xc4
		if (e == api.ErrForm) != isForm {
			t.Errorf("first byte %x: %d", first, e)
		}
	}
}

// TestTextPacked: packed texts that PutText would not write, but that are sound.
func TestTextPacked(t *testing.T) {
	cases := []struct {
		s, want string
	}{
		{packed("\x00a", 1), "a"},
		{packed("\x0112", 2), "12"},
		{packed("\x02abc", 3), "abc"},
		{packed("\x00a\xc0\x00", 9), strings.Repeat("a", 9)},
		{packed(runs(unlike(5000)), 5000), unlike(5000)},
		{packed(runs(unlike(api.MaxElement)), api.MaxElement), unlike(api.MaxElement)},
	}
	for _, c := range cases {
		if got, n, e := Text(c.s + "rest"); got != c.want || n != len(c.s) || e != api.OK {
			t.Errorf("Text(%s) = %s, %d, %d", short(c.s), short(got), n, e)
		}
	}
}

// TestTextPackedFaults: each length, its bytes, and what lzf.Unpack says.
func TestTextPackedFaults(t *testing.T) {
	huge := strings.Repeat("\x00", MaxBlob)
	checkFaults(t, []faulty{
		{"no P", "\xc3", api.ErrShort},
		{"no N", "\xc3\x01", api.ErrShort},
		{"P is no length", "\xc3\xff\x01a", api.ErrForm},
		{"N is no length", "\xc3\x02\x90\x00a", api.ErrForm},
		{"P is special", "\xc3\xc0\x01\x00a", api.ErrForm},
		{"P is special, packed", "\xc3\xc3\x01\x00a", api.ErrForm},
		{"N is special", "\xc3\x02\xc0\x00a", api.ErrForm},
		{"N is special, packed", "\xc3\x02\xc3\x00a", api.ErrForm},
		{"P in a longer form", "\xc3\x40\x02\x01\x00a", api.ErrForm},
		{"N in a longer form", "\xc3\x02\x40\x01\x00a", api.ErrForm},
		{"P ends", "\xc3\x80\x00\x01", api.ErrShort},
		{"N ends", "\xc3\x02\x80\x00\x01", api.ErrShort},
		{"P beyond the bytes", "\xc3\x03\x01\x00a", api.ErrShort},
		{"P of MaxBlob beyond the bytes", "\xc3" + length(MaxBlob) + "\x01\x00a", api.ErrShort},
		{"P of one more", "\xc3" + length(MaxBlob+1) + "\x01\x00a", api.ErrLong},
		{"P of one more, bytes there", "\xc3" + length(MaxBlob+1) + "\x01" + huge + "\x00", api.ErrLong},
		{"P of MaxBlob, bytes there", "\xc3" + length(MaxBlob) + "\x01" + huge, api.ErrSize},
		{"N of MaxBlob", packed("\x00a", MaxBlob), api.ErrLong},
		{"N of MaxBlob, too short", "\xc3\x03" + length(MaxBlob) + "\x00a", api.ErrShort},
		{"N of one more", packed("\x00a", MaxBlob+1), api.ErrLong},
		{"N of one more, too short", "\xc3\x03" + length(MaxBlob+1) + "\x00a", api.ErrLong},
		{"N of 2^62", packed("\x00a", 1<<62), api.ErrLong},
		{"N above MaxElement", packed("\x00a", api.MaxElement+1), api.ErrLong},
		{"N above MaxElement, and it comes out", packed(runs(unlike(api.MaxElement+1)), api.MaxElement+1), api.ErrLong},
		{"N above MaxElement, a reference ahead", packed("\x20\x00", api.MaxElement+1), api.ErrLong},
		{"N above MaxElement, too short", "\xc3\x03" + length(api.MaxElement+1) + "\x00a", api.ErrShort},
		{"N of MaxElement, less comes out", packed("\x00a", api.MaxElement), api.ErrSize},
		{"N of 0", packed("\x00a", 0), api.ErrSize},
		{"N of 0, no bytes", packed("", 0), api.ErrSize},
		{"N of 0, too short", "\xc3\x03\x00\x00a", api.ErrShort},
		{"no bytes", packed("", 1), api.ErrSize},
		{"less comes out", packed("\x00a", 2), api.ErrSize},
		{"more comes out", packed("\x01ab", 1), api.ErrSize},
		{"a reference ahead", packed("\x20\x00", 3), api.ErrRef},
		{"a reference too far ahead", packed("\x00a\x20\x01", 4), api.ErrRef},
		{"a run ends", packed("\x05ab", 6), api.ErrShort},
		{"a copy ends", packed("\x00a\x20", 4), api.ErrShort},
	})
}

// TestTextOrder: with two faults the first one counts: each length ahead of the next, then too long, then too short, then what does not come out.
func TestTextOrder(t *testing.T) {
	long, over := length(MaxBlob+1), length(1<<62)
	checkFaults(t, []faulty{
		{"P no length, N missing", "\xc3\xff", api.ErrForm},
		{"P no length, N ends", "\xc3\x90\x40", api.ErrForm},
		{"P in a longer form, N missing", "\xc3\x40\x3f", api.ErrForm},
		{"P ends, in a longer form", "\xc3\x80\x00\x00\x00", api.ErrShort},
		{"P special, N special", "\xc3\xc1\xc1", api.ErrForm},
		{"P too long, N missing", "\xc3" + long, api.ErrShort},
		{"P too long, N no length", "\xc3" + long + "\xff", api.ErrForm},
		{"P too long, N special", "\xc3" + over + "\xc0", api.ErrForm},
		{"P too long, N ends", "\xc3" + over + "\x80\x00", api.ErrShort},
		{"P too long, N of 0", "\xc3" + long + "\x00", api.ErrLong},
		{"P too long, bytes missing", "\xc3" + long + "\x05", api.ErrLong},
		{"P beyond the bytes, N too long", "\xc3\x05" + over, api.ErrLong},
		{"both too long", "\xc3" + long + long, api.ErrLong},
		{"plain, too long and too short", long, api.ErrLong},
		{"plain, too long, in a longer form", "\x81" + high(MaxBlob+1, 8), api.ErrForm},
		{"plain, the length ends", long[:4], api.ErrShort},
		{"more comes out, and a reference ahead", packed("\x20\x00", 2), api.ErrSize},
		{"a reference ahead, and less comes out", packed("\x20\x00", 9), api.ErrRef},
	})
}

// TestExampleTexts: the chapter's examples.
func TestExampleTexts(t *testing.T) {
	if got := PutText("12", true); got != "\xc0\x0c" {
		t.Errorf("PutText(12) = %q", got)
	}
	if got := PutText("hello", true); got != "\x05hello" {
		t.Errorf("PutText(hello) = %q", got)
	}
	if s, n, e := Text("\xc0\x0c.."); s != "12" || n != 2 || e != api.OK {
		t.Errorf("Text(C0 0C ..) = %q, %d, %d", s, n, e)
	}
}
