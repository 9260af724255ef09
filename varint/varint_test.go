package varint

import (
	"encoding/binary"
	"math"
	"math/big"
	"strings"
	"sync"
	"testing"

	"cistern/api"
)

// mix gives numbers that look mixed, the same ones in every run.
type mix uint64

func (m *mix) next() uint64 {
	*m ^= *m << 13
	*m ^= *m >> 7
	*m ^= *m << 17
	return uint64(*m)
}

// sized gives a number of any size in bits, so that short ones come as often as long ones.
func (m *mix) sized() uint64 {
	shift := m.next() >> 7 % 64
	return m.next() >> shift
}

func (m *mix) text(n int) string {
	b := make([]byte, n)
	for i := range b {
		b[i] = byte(m.next() >> 32)
	}
	return string(b)
}

// lengthBytes is a length's bytes as the chapter's words say them.
func lengthBytes(n int) string {
	switch {
	case n < 64:
		return string([]byte{byte(n)})
	case n < 16384:
		return string([]byte{byte(64 + n/256), byte(n % 256)})
	case n < 4294967296:
		return string(binary.BigEndian.AppendUint32([]byte{0x80}, uint32(n)))
	}
	return string(binary.BigEndian.AppendUint64([]byte{0x81}, uint64(n)))
}

// formBytes is a number's form as the chapter's words say it, empty if it has none.
func formBytes(n int) string {
	switch {
	case n >= -128 && n <= 127:
		return string([]byte{0xC0, byte(int8(n))})
	case n >= -32768 && n <= 32767:
		return string(binary.LittleEndian.AppendUint16([]byte{0xC1}, uint16(int16(n))))
	case n >= -2147483648 && n <= 2147483647:
		return string(binary.LittleEndian.AppendUint32([]byte{0xC2}, uint32(int32(n))))
	}
	return ""
}

// lengths are those at the edges of each way, and mixed ones.
func lengths() []int {
	list := []int{0, 1, 62, 63, 64, 65, 255, 256, 257, 16382, 16383, 16384, 16385, 65535, 65536, 1<<24 - 1, 1 << 24,
		1<<31 - 1, 1 << 31, 1<<32 - 2, 1<<32 - 1, 1 << 32, 1<<32 + 1, 1 << 40, 1 << 48, 1 << 56, 1<<61 + 7, 1<<62 - 1, 1 << 62}
	m := mix(1)
	for range 2000 {
		list = append(list, int(m.sized()>>2))
	}
	return list
}

// ints are numbers at the ends of each form and of 64 bits, and mixed ones.
func ints() []int {
	list := []int{0}
	for _, edge := range []int{1, 10, 100, 127, 128, 129, 255, 256, 32767, 32768, 32769, 65535, 65536, 1<<31 - 1, 1 << 31, 1<<31 + 1, 1<<32 - 1, 1 << 32, api.MaxNumber, 1 << 62, math.MaxInt - 1, math.MaxInt} {
		list = append(list, edge, -edge)
	}
	list = append(list, math.MinInt, math.MinInt+1)
	m := mix(2)
	for range 2000 {
		n := int(m.sized())
		list = append(list, n, -n)
	}
	return list
}

func checkLen(t *testing.T, s string, n, size, special int, e api.Errno) {
	t.Helper()
	gotN, gotSize, gotSpecial, gotE := Len(s)
	if gotN != n || gotSize != size || gotSpecial != special || gotE != e {
		t.Errorf("Len(% X) = %d, %d, %d, error %d, want %d, %d, %d, error %d", s, gotN, gotSize, gotSpecial, gotE, n, size, special, e)
	}
}

func checkInt(t *testing.T, s string, n, size int, e api.Errno) {
	t.Helper()
	gotN, gotSize, gotE := Int(s)
	if gotN != n || gotSize != size || gotE != e {
		t.Errorf("Int(% X) = %d, %d, error %d, want %d, %d, error %d", s, gotN, gotSize, gotE, n, size, e)
	}
}

func TestP21Examples(t *testing.T) {
	for _, x := range []struct {
		n    int
		want string
	}{
		{0, "\x00"},
		{63, "\x3f"},
		{64, "\x40\x40"},
		{16383, "\x7f\xff"},
		{16384, "\x80\x00\x00\x40\x00"},
		{1<<32 - 1, "\x80\xff\xff\xff\xff"},
		{1 << 32, "\x81\x00\x00\x00\x01\x00\x00\x00\x00"},
		{0x0102030405060708, "\x81\x01\x02\x03\x04\x05\x06\x07\x08"},
		{1 << 62, "\x81\x40\x00\x00\x00\x00\x00\x00\x00"},
	} {
		if got, e := PutLen(x.n); got != x.want || e != api.OK {
			t.Errorf("PutLen(%d) = % X, error %d, want % X", x.n, got, e, x.want)
		}
	}
}

func TestP21Lengths(t *testing.T) {
	for _, n := range lengths() {
		if got, e := PutLen(n); got != lengthBytes(n) || e != api.OK {
			t.Errorf("PutLen(%d) = % X, error %d, want % X", n, got, e, lengthBytes(n))
		}
	}
	for n := range 70000 {
		if got, e := PutLen(n); got != lengthBytes(n) || e != api.OK {
			t.Fatalf("PutLen(%d) = % X, error %d, want % X", n, got, e, lengthBytes(n))
		}
	}
}

func TestP21Wrong(t *testing.T) {
	for _, n := range []int{-1, -2, -63, -64, -1 << 32, math.MinInt, math.MinInt + 1, 1<<62 + 1, 1<<62 + 2, math.MaxInt - 1, math.MaxInt} {
		if got, e := PutLen(n); got != "" || e != api.ErrArg {
			t.Errorf("PutLen(%d) = % X, error %d", n, got, e)
		}
	}
}

func TestP22Examples(t *testing.T) {
	checkLen(t, "\x40\x3f", 0, 0, 0, api.ErrForm)
	checkLen(t, "\x40", 0, 0, 0, api.ErrShort)
	checkLen(t, "\x80\x00\x00", 0, 0, 0, api.ErrShort)
	checkLen(t, "\xc3\x05", 0, 1, 4, api.OK)
	checkLen(t, "\x90", 0, 0, 0, api.ErrForm)
	checkLen(t, "\x81"+strings.Repeat("\xff", 8), 0, 0, 0, api.ErrForm)
}

// TestP22FirstBytes: what each byte is where nothing stands behind it, and where enough does.
func TestP22FirstBytes(t *testing.T) {
	for b := range 256 {
		first := string([]byte{byte(b)})
		behind := first + "\x40\x10\x20\x30\x40\x50\x60\x70\x80"
		switch {
		case b < 0x40:
			checkLen(t, first, b, 1, 0, api.OK)
			checkLen(t, behind, b, 1, 0, api.OK)
		case b < 0x80:
			checkLen(t, first, 0, 0, 0, api.ErrShort)
			checkLen(t, behind, (b-0x40)*256+0x40, 2, 0, api.OK)
		case b == 0x80:
			checkLen(t, first, 0, 0, 0, api.ErrShort)
			checkLen(t, behind, 0x40102030, 5, 0, api.OK)
		case b == 0x81:
			checkLen(t, first, 0, 0, 0, api.ErrShort)
			checkLen(t, behind, 0, 0, 0, api.ErrForm) // above 2^62
		case b >= 0xC0 && b <= 0xC3:
			checkLen(t, first, 0, 1, b-0xC0+1, api.OK)
			checkLen(t, behind, 0, 1, b-0xC0+1, api.OK)
		default:
			checkLen(t, first, 0, 0, 0, api.ErrForm)
			checkLen(t, behind, 0, 0, 0, api.ErrForm)
		}
	}
}

func TestP22TwoBytes(t *testing.T) {
	for n := range 16384 {
		s := string([]byte{byte(0x40 + n>>8), byte(n)})
		if n < 64 {
			checkLen(t, s, 0, 0, 0, api.ErrForm)
		} else {
			checkLen(t, s, n, 2, 0, api.OK)
		}
	}
}

// TestP22Longer: a length in a longer way than its own is none.
func TestP22Longer(t *testing.T) {
	for _, n := range lengths() {
		own := len(lengthBytes(n))
		if n < 16384 && own < 2 {
			checkLen(t, string([]byte{byte(64 + n/256), byte(n % 256)}), 0, 0, 0, api.ErrForm)
		}
		if n < 1<<32 && own < 5 {
			checkLen(t, string(binary.BigEndian.AppendUint32([]byte{0x80}, uint32(n))), 0, 0, 0, api.ErrForm)
		}
		if own < 9 {
			checkLen(t, string(binary.BigEndian.AppendUint64([]byte{0x81}, uint64(n))), 0, 0, 0, api.ErrForm)
		}
	}
}

func TestP22TooGreat(t *testing.T) {
	for _, n := range []uint64{1<<62 + 1, 1<<62 + 2, 1<<63 - 1, 1 << 63, 1<<63 + 5, 1<<63 | 1<<62, math.MaxUint64 - 1, math.MaxUint64} {
		checkLen(t, string(binary.BigEndian.AppendUint64([]byte{0x81}, n)), 0, 0, 0, api.ErrForm)
	}
}

// TestP22Cut: bytes that end within a length, be they a beginning of one or not.
func TestP22Cut(t *testing.T) {
	checkLen(t, "", 0, 0, 0, api.ErrShort)
	whole := []string{"\x40\x00", "\x80\x00\x00\x00\x00", "\x80\xff\xff\xff\xff", "\x81" + strings.Repeat("\x00", 8), "\x81" + strings.Repeat("\xff", 8)}
	for _, n := range lengths()[:60] {
		whole = append(whole, lengthBytes(n))
	}
	for _, s := range whole {
		for cut := range len(s) {
			checkLen(t, s[:cut], 0, 0, 0, api.ErrShort)
		}
	}
}

func TestP23Examples(t *testing.T) {
	for _, x := range []struct {
		n    int
		want string
	}{
		{0, "\xc0\x00"},
		{-1, "\xc0\xff"},
		{127, "\xc0\x7f"},
		{-128, "\xc0\x80"},
		{128, "\xc1\x80\x00"},
		{-129, "\xc1\x7f\xff"},
		{32767, "\xc1\xff\x7f"},
		{-32768, "\xc1\x00\x80"},
		{32768, "\xc2\x00\x80\x00\x00"},
		{-32769, "\xc2\xff\x7f\xff\xff"},
		{1<<31 - 1, "\xc2\xff\xff\xff\x7f"},
		{-1 << 31, "\xc2\x00\x00\x00\x80"},
		{0x01020304, "\xc2\x04\x03\x02\x01"},
	} {
		if got, ok := PutInt(x.n); got != x.want || !ok {
			t.Errorf("PutInt(%d) = % X, %v, want % X", x.n, got, ok, x.want)
		}
		checkInt(t, x.want, x.n, len(x.want), api.OK)
	}
	checkInt(t, "\xc1\x01\x00", 0, 0, api.ErrForm)
}

func TestP23PutInt(t *testing.T) {
	for _, n := range ints() {
		want := formBytes(n)
		if got, ok := PutInt(n); got != want || ok != (want != "") {
			t.Errorf("PutInt(%d) = % X, %v, want % X", n, got, ok, want)
		}
	}
	for n := -70000; n <= 70000; n++ {
		if got, ok := PutInt(n); got != formBytes(n) || !ok {
			t.Fatalf("PutInt(%d) = % X, %v, want % X", n, got, ok, formBytes(n))
		}
	}
}

func TestP23None(t *testing.T) {
	for _, n := range []int{1 << 31, -1<<31 - 1, 1<<32 - 1, 1 << 32, -1 << 32, 1 << 40, math.MaxInt, math.MinInt} {
		if got, ok := PutInt(n); got != "" || ok {
			t.Errorf("PutInt(%d) = % X, %v", n, got, ok)
		}
	}
}

func TestP23FirstBytes(t *testing.T) {
	for b := range 256 {
		if b >= 0xC0 && b <= 0xC2 {
			continue
		}
		checkInt(t, string([]byte{byte(b)}), 0, 0, api.ErrForm)
		checkInt(t, string([]byte{byte(b)})+"\x00\x40\x00\x40", 0, 0, api.ErrForm)
	}
}

// TestP23EveryShortForm: all forms of one and of two bytes.
func TestP23EveryShortForm(t *testing.T) {
	for b := range 256 {
		checkInt(t, string([]byte{0xC0, byte(b)}), int(int8(b)), 2, api.OK)
	}
	for b := range 65536 {
		s, n := string([]byte{0xC1, byte(b), byte(b >> 8)}), int(int16(b))
		if n >= -128 && n <= 127 {
			checkInt(t, s, 0, 0, api.ErrForm)
		} else {
			checkInt(t, s, n, 3, api.OK)
		}
	}
}

func TestP23Longer(t *testing.T) {
	for _, n := range ints() {
		if n >= -32768 && n <= 32767 {
			checkInt(t, string(binary.LittleEndian.AppendUint32([]byte{0xC2}, uint32(int32(n)))), 0, 0, api.ErrForm)
		}
		if n >= -128 && n <= 127 {
			checkInt(t, string(binary.LittleEndian.AppendUint16([]byte{0xC1}, uint16(int16(n)))), 0, 0, api.ErrForm)
		}
	}
}

func TestP23Cut(t *testing.T) {
	checkInt(t, "", 0, 0, api.ErrShort)
	for _, s := range []string{"\xc0\x01", "\xc1\x00\x01", "\xc1\x00\x00", "\xc2\x00\x00\x00\x01", "\xc2\x00\x00\x00\x00", "\xc2\xff\xff\xff\xff"} {
		for cut := range len(s) {
			checkInt(t, s[:cut], 0, 0, api.ErrShort)
		}
	}
}

func TestP24Digits(t *testing.T) {
	for n, want := range map[int]string{0: "0", 7: "7", -7: "-7", 10: "10", -100: "-100", math.MaxInt: "9223372036854775807", math.MinInt: "-9223372036854775808"} {
		if got := Digits(n); got != want {
			t.Errorf("Digits(%d) = %q", n, got)
		}
	}
	for _, n := range ints() {
		if got, want := Digits(n), big.NewInt(int64(n)).String(); got != want {
			t.Errorf("Digits(%d) = %q, want %q", n, got, want)
		}
	}
}

func TestP24Number(t *testing.T) {
	for s, want := range map[string]int{"0": 0, "1": 1, "-1": -1, "9": 9, "10": 10, "-10": -10, "100000": 100000, "9223372036854775807": math.MaxInt, "9223372036854775806": math.MaxInt - 1, "-9223372036854775807": -math.MaxInt, "-9223372036854775808": math.MinInt} {
		if got, ok := Number(s); got != want || !ok {
			t.Errorf("Number(%q) = %d, %v", s, got, ok)
		}
	}
}

func TestP24NoNumber(t *testing.T) {
	list := []string{"", "-", "+", "--", "--1", "-+1", "+-1", "+1", "+0", "-0", "00", "-00", "007", "-007", "01", "0-", "1-", "1-2", "-1-",
		" 1", "1 ", "- 1", "1 2", "\n1", "1\n", "1\x00", "\x001", "1_000", "1_0", "_1", "0x10", "0b1", "0o7", "1e3", "1.0", ".1", "1.", "1,000",
		"a", "1a", "a1", "inf", "nan", "/", ":", "1/", "1:", "-/", "-:", "٣", "1٣", "１", "\xb1", "1\xff",
		"9223372036854775808", "-9223372036854775809", "9223372036854775810", "18446744073709551615", "18446744073709551616", "-18446744073709551616",
		"10000000000000000000", "92233720368547758070", "-92233720368547758080", "00000000000000000000001", "-00000000000000000000001",
		strings.Repeat("9", 1000), "-" + strings.Repeat("1", 1000), strings.Repeat("0", 1000), strings.Repeat("1", api.MaxElement)}
	for _, s := range list {
		if got, ok := Number(s); got != 0 || ok {
			t.Errorf("Number(%.40q) = %d, %v", s, got, ok)
		}
	}
}

// TestP24EveryShortText: of all texts of up to three bytes just those that Digits writes are numbers.
func TestP24EveryShortText(t *testing.T) {
	numbers := map[string]int{}
	for n := -99; n <= 999; n++ {
		numbers[big.NewInt(int64(n)).String()] = n
	}
	try := func(b []byte) {
		want, is := numbers[string(b)]
		if got, ok := Number(string(b)); got != want || ok != is {
			t.Errorf("Number(%q) = %d, %v", b, got, ok)
		}
	}
	signs := []byte("+-.,_/:09 19ex\x00\xff\xb0")
	for a := range 256 {
		try([]byte{byte(a)})
		for b := range 256 {
			try([]byte{byte(a), byte(b)})
			for _, c := range signs {
				try([]byte{byte(a), byte(b), c})
			}
		}
	}
}

func TestP27Lengths(t *testing.T) {
	m := mix(7)
	for _, n := range lengths() {
		s, _ := PutLen(n)
		checkLen(t, s, n, len(s), 0, api.OK)
		checkLen(t, s+"\x00", n, len(s), 0, api.OK)
		checkLen(t, s+m.text(12), n, len(s), 0, api.OK)
	}
}

func TestP27Numbers(t *testing.T) {
	m := mix(8)
	for _, n := range ints() {
		if got, ok := Number(Digits(n)); got != n || !ok {
			t.Errorf("Number(Digits(%d)) = %d, %v", n, got, ok)
		}
		s, ok := PutInt(n)
		if !ok {
			continue
		}
		checkInt(t, s, n, len(s), api.OK)
		checkInt(t, s+"\xff", n, len(s), api.OK)
		checkInt(t, s+m.text(12), n, len(s), api.OK)
	}
}

// TestP27Back: what is taken of any bytes is written again as it was.
func TestP27Back(t *testing.T) {
	m := mix(9)
	firsts := "\x00\x3f\x40\x7f\x80\x80\x80\x81\x81\x81\xc0\xc1\xc2"
	for i := range 60000 {
		b := []byte(m.text(9))
		b[0] = firsts[i%len(firsts)]
		for j := range int(m.next() >> 9 % 9) { // many zeros, or all ones, in the high bytes
			b[1+j] = byte(-(i / len(firsts) % 2))
		}
		s := string(b)
		if n, size, special, e := Len(s); e == api.OK && special == 0 {
			if again, f := PutLen(n); again != s[:size] || f != api.OK {
				t.Fatalf("Len(% X) = %d, which is written % X, error %d", s, n, again, f)
			}
		}
		if n, size, e := Int(s); e == api.OK {
			if again, ok := PutInt(n); again != s[:size] || !ok {
				t.Fatalf("Int(% X) = %d, which is written % X, %v", s, n, again, ok)
			}
		}
	}
	for range 60000 {
		b := []byte(m.text(1 + int(m.next()>>9%20)))
		for i := range b {
			b[i] = "-0123456789"[int(b[i])%11]
		}
		if n, ok := Number(string(b)); ok && Digits(n) != string(b) {
			t.Fatalf("Number(%q) = %d", b, n)
		}
	}
}

// TestP27NoBeginning: none of the texts is among the beginnings of all of them.
func TestP27NoBeginning(t *testing.T) {
	heads := map[string]int{}
	var wayTexts, formTexts []string
	for _, n := range lengths() {
		s, _ := PutLen(n)
		wayTexts = append(wayTexts, s)
	}
	for _, n := range ints() {
		if s, ok := PutInt(n); ok {
			formTexts = append(formTexts, s)
		}
	}
	for _, list := range [][]string{wayTexts, formTexts} {
		clear(heads)
		for _, s := range list {
			for cut := range len(s) {
				heads[s[:cut]] = cut + 1
			}
		}
		for _, s := range list {
			if heads[s] != 0 {
				t.Errorf("% X is the beginning of another one", s)
			}
		}
	}
}

// TestAlone: many callers at once are answered as one is.
func TestAlone(t *testing.T) {
	var wait sync.WaitGroup
	for worker := range 8 {
		wait.Go(func() {
			m := mix(20 + worker)
			for range 2000 {
				n := int(m.sized() >> 2)
				if s, _ := PutLen(n); s != lengthBytes(n) {
					t.Errorf("PutLen(%d) = % X", n, s)
				}
				if s, _ := PutInt(-n); s != formBytes(-n) {
					t.Errorf("PutInt(%d) = % X", -n, s)
				}
				if k, ok := Number(Digits(n)); k != n || !ok {
					t.Errorf("Number(Digits(%d)) = %d", n, k)
				}
			}
		})
	}
	wait.Wait()
}

func FuzzTotal(f *testing.F) {
	f.Add([]byte("\x81\x00\x00\x00\x01\x00\x00\x00\x00"))
	f.Add([]byte("-12"))
	f.Fuzz(func(t *testing.T, b []byte) {
		s := string(b)
		if n, size, special, e := Len(s); e != api.OK && (n != 0 || size != 0 || special != 0) {
			t.Errorf("Len(% X) = %d, %d, %d, error %d", s, n, size, special, e)
		}
		if n, size, e := Int(s); e != api.OK && (n != 0 || size != 0) {
			t.Errorf("Int(% X) = %d, %d, error %d", s, n, size, e)
		}
		if n, ok := Number(s); ok != (Digits(n) == s) {
			t.Errorf("Number(%q) = %d, %v", s, n, ok)
		}
	})
}
