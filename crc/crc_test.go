package crc

import (
	"math"
	"strings"
	"sync"
	"testing"
)

// bitwise is Update as C1 says it, step by step.
func bitwise(c uint64, s string) uint64 {
	for i := range len(s) {
		c ^= uint64(s[i])
		for range 8 {
			if c%2 == 1 {
				c = c/2 ^ 0x95AC9329AC4BC9B5
			} else {
				c = c / 2
			}
		}
	}
	return c
}

// mix gives numbers that look mixed, the same ones in every run.
type mix uint64

func (m *mix) next() uint64 {
	*m ^= *m << 13
	*m ^= *m >> 7
	*m ^= *m << 17
	return uint64(*m)
}

func (m *mix) text(n int) string {
	b := make([]byte, n)
	for i := range b {
		b[i] = byte(m.next() >> 32)
	}
	return string(b)
}

func zeros(n int) string { return strings.Repeat("\x00", n) }

// starts are sums at the edges, some with their highest bit set.
func starts() []uint64 {
	return []uint64{0, 1, 2, 1 << 31, 1 << 32, 1 << 62, 1 << 63, 1<<63 | 1, math.MaxUint64, 0x95AC9329AC4BC9B5, 0xE9C6D914C4B8D9CA}
}

// texts are texts of all short lengths and some longer ones.
func texts() []string {
	list := []string{"", "\x00", "\x00\x00\x00", "a", "\x80", "\xff", "123456789", "any text", "\x00a", "a\x00", zeros(100), strings.Repeat("\xff", 100)}
	m := mix(1)
	for n := range 70 {
		list = append(list, m.text(n))
	}
	return append(list, m.text(255), m.text(256), m.text(257), m.text(5000))
}

func TestC1Examples(t *testing.T) {
	for _, x := range []struct {
		text string
		sum  uint64
	}{
		{"", 0},
		{"\x00", 0},
		{zeros(1000), 0},
		{"123456789", 0xE9C6D914C4B8D9CA},
		{"\x80", 0x95AC9329AC4BC9B5},
	} {
		if got := Sum(x.text); got != x.sum {
			t.Errorf("Sum(%q) = %X, want %X", x.text, got, x.sum)
		}
	}
}

func TestC1UpdateIsStepByStep(t *testing.T) {
	for _, s := range texts() {
		if got, want := Sum(s), bitwise(0, s); got != want {
			t.Errorf("Sum(%q) = %X, want %X", s, got, want)
		}
		for _, c := range starts() {
			if got, want := Update(c, s), bitwise(c, s); got != want {
				t.Errorf("Update(%X, %q) = %X, want %X", c, s, got, want)
			}
		}
	}
}

func TestC1EveryByte(t *testing.T) {
	for b := range 256 {
		s := string([]byte{byte(b)})
		for _, c := range starts() {
			if got, want := Update(c, s), bitwise(c, s); got != want {
				t.Errorf("Update(%X, byte %d) = %X, want %X", c, b, got, want)
			}
		}
	}
}

func TestC1EmptyTextChangesNothing(t *testing.T) {
	for _, c := range starts() {
		if got := Update(c, ""); got != c {
			t.Errorf("Update(%X, nothing) = %X", c, got)
		}
	}
}

func TestC2Example(t *testing.T) {
	if got, want := Join(Sum("1234"), Sum("56789"), 5), Sum("123456789"); got != want {
		t.Errorf("Join = %X, want %X", got, want)
	}
}

func TestC2SumOfBoth(t *testing.T) {
	for _, s := range texts() {
		for _, u := range texts() {
			if got, want := Join(Sum(s), Sum(u), len(u)), bitwise(0, s+u); got != want {
				t.Fatalf("Join of %q and %q = %X, want %X", s, u, got, want)
			}
		}
	}
}

func TestC2ZeroBytes(t *testing.T) {
	lengths := []int{255, 256, 257, 1000, 4095, 4096, 4097, 65535, 65536, 1<<18 + 5}
	for n := range 70 {
		lengths = append(lengths, n)
	}
	for _, n := range lengths {
		for _, a := range starts() {
			behind := bitwise(a, zeros(n))
			for _, b := range []uint64{0, 1, 1 << 63, math.MaxUint64, 0xE9C6D914C4B8D9CA} {
				if got := Join(a, b, n); got != behind^b {
					t.Errorf("Join(%X, %X, %d) = %X, want %X", a, b, n, got, behind^b)
				}
			}
		}
	}
}

func TestC2BelowOne(t *testing.T) {
	for _, n := range []int{0, -1, -2, -8, -1 << 32, math.MinInt + 1, math.MinInt} {
		for _, a := range starts() {
			for _, b := range starts() {
				if got := Join(a, b, n); got != a^b {
					t.Errorf("Join(%X, %X, %d) = %X, want %X", a, b, n, got, a^b)
				}
			}
		}
	}
}

// TestC2GreatDoubles: from a length that was gone through byte by byte on, twice as many bytes of value 0 are the first half, then the second one.
func TestC2GreatDoubles(t *testing.T) {
	for _, a := range starts() {
		if got, want := Join(a, 0, 1), bitwise(a, "\x00"); got != want {
			t.Fatalf("Join(%X, 0, 1) = %X, want %X", a, got, want)
		}
		for digit := 1; digit < 63; digit++ {
			half := 1 << (digit - 1)
			want := Join(Join(a, 0, half), 0, half)
			if got := Join(a, 0, 2*half); got != want {
				t.Errorf("Join(%X, 0, 2^%d) = %X, want %X", a, digit, got, want)
			}
		}
	}
}

// TestC2GreatAdds: a great n is as good as its parts; it would not end if it took a step for each byte.
func TestC2GreatAdds(t *testing.T) {
	m := mix(2)
	for range 200 {
		a, b := m.next(), m.next()
		n := int(m.next() >> 1)
		part := int(m.next() % uint64(n))
		if got, want := Join(a, b, n), Join(Join(a, 0, part), b, n-part); got != want {
			t.Errorf("Join(%X, %X, %d) = %X, want %X", a, b, n, got, want)
		}
	}
	all := uint64(math.MaxUint64)
	for digit := range 63 {
		all = Join(all, 0, 1<<digit)
	}
	if got := Join(math.MaxUint64, 1<<63, math.MaxInt); got != all^1<<63 {
		t.Errorf("Join with the greatest n = %X, want %X", got, all^1<<63)
	}
}

func TestC3Text(t *testing.T) {
	for _, x := range []struct {
		sum  uint64
		text string
	}{
		{0, zeros(8)},
		{258, "\x02\x01" + zeros(6)},
		{1 << 63, zeros(7) + "\x80"},
		{0xE9C6D914C4B8D9CA, "\xca\xd9\xb8\xc4\x14\xd9\xc6\xe9"},
		{math.MaxUint64, strings.Repeat("\xff", 8)},
		{0x0807060504030201, "\x01\x02\x03\x04\x05\x06\x07\x08"},
	} {
		if got := Text(x.sum); got != x.text {
			t.Errorf("Text(%X) = %q, want %q", x.sum, got, x.text)
		}
		if got, ok := Read(x.text); got != x.sum || !ok {
			t.Errorf("Read(%q) = %X, %v, want %X", x.text, got, ok, x.sum)
		}
	}
}

func TestC3ThereAndBack(t *testing.T) {
	m := mix(3)
	for range 1000 {
		c := m.next()
		if got, ok := Read(Text(c)); got != c || !ok {
			t.Errorf("Read(Text(%X)) = %X, %v", c, got, ok)
		}
		s := m.text(8)
		got, ok := Read(s)
		if !ok || Text(got) != s {
			t.Errorf("Text(Read(%q)) = %q, %v", s, Text(got), ok)
		}
	}
}

func TestC3ReadOfOtherLengths(t *testing.T) {
	for n := range 300 {
		if n == 8 {
			continue
		}
		for _, s := range []string{strings.Repeat("\xff", n), zeros(n)} {
			if got, ok := Read(s); got != 0 || ok {
				t.Errorf("Read of %d bytes = %X, %v", n, got, ok)
			}
		}
	}
}

func TestC4Pieces(t *testing.T) {
	whole := texts()[len(texts())-2]
	for _, c := range starts() {
		want := bitwise(c, whole)
		for cut := range len(whole) + 1 {
			if got := Update(Update(c, whole[:cut]), whole[cut:]); got != want {
				t.Errorf("Update(%X, a text cut at %d) = %X, want %X", c, cut, got, want)
			}
		}
	}
}

func TestC4SumBehindIsZero(t *testing.T) {
	for _, s := range texts() {
		if got := Sum(s + Text(Sum(s))); got != 0 {
			t.Errorf("Sum of %q with its sum behind it = %X", s, got)
		}
	}
}

// changed gives the text with the bits of a burst turned from a place on.
func changed(s string, place int, burst uint64) string {
	b := []byte(s)
	for i := range 64 {
		if burst>>i&1 == 1 {
			b[(place+i)/8] ^= 1 << ((place + i) % 8)
		}
	}
	return string(b)
}

func TestC5Bursts(t *testing.T) {
	m := mix(4)
	for _, s := range []string{zeros(24), m.text(24), strings.Repeat("\xff", 24)} {
		sum := Sum(s)
		for place := range 8*len(s) - 63 {
			bursts := []uint64{1, 3, 1 << 63, 1<<63 | 1, math.MaxUint64, 0x95AC9329AC4BC9B5, 0xAD93D23594C935A9}
			for range 50 {
				bursts = append(bursts, m.next())
			}
			for _, burst := range bursts {
				if Sum(changed(s, place, burst)) == sum {
					t.Errorf("the bits %X from %d on changed nothing", burst, place)
				}
			}
		}
	}
}

// TestC5EveryBurst: the sums of the 64 single bits stand each for itself, so no choice of them gives 0, and no two choices the same sum.
func TestC5EveryBurst(t *testing.T) {
	s := mix(5)
	text := s.text(20)
	for place := range 8*len(text) - 63 {
		var lead [64]uint64
		for bit := range 64 {
			d := Sum(changed(text, place, 1<<bit)) ^ Sum(text)
			for high := 63; high >= 0 && d != 0; high-- {
				if d>>high&1 == 0 {
					continue
				}
				if lead[high] == 0 {
					lead[high] = d
					break
				}
				d ^= lead[high]
			}
			if d == 0 {
				t.Fatalf("bit %d of the 64 from %d on hangs on those ahead of it", bit, place)
			}
		}
	}
}

// TestP2Alone: many callers at once are answered as one is.
func TestP2Alone(t *testing.T) {
	list := texts()
	var wait sync.WaitGroup
	for worker := range 8 {
		wait.Go(func() {
			for i := range list {
				s := list[(i+worker*7)%len(list)]
				if got, want := Sum(s), bitwise(0, s); got != want {
					t.Errorf("Sum(%q) = %X, want %X", s, got, want)
				}
				if got, want := Join(7, 9, len(s)), bitwise(7, zeros(len(s)))^9; got != want {
					t.Errorf("Join(7, 9, %d) = %X, want %X", len(s), got, want)
				}
			}
		})
	}
	wait.Wait()
}

func BenchmarkSumShort(b *testing.B) {
	for range b.N {
		Sum("123456789")
	}
}

func BenchmarkSumLong(b *testing.B) {
	s := zeros(1 << 20)
	b.SetBytes(1 << 20)
	for range b.N {
		Sum(s)
	}
}

func BenchmarkJoin(b *testing.B) {
	for range b.N {
		Join(1, 2, math.MaxInt)
	}
}
