package lzf

import (
	"math"
	"runtime"
	"strings"
	"testing"

	"cistern/api"
)

// mix gives numbers that look mixed, the same ones in every run.
type mix uint64

func (m *mix) next() uint64 {
	*m ^= *m << 13
	*m ^= *m >> 7
	*m ^= *m << 17
	return uint64(*m)
}

func (m *mix) below(n int) int { return int(m.next() >> 11 % uint64(n)) }

// text gives n bytes of the first so many kinds.
func (m *mix) text(n, kinds int) string {
	b := make([]byte, n)
	for i := range b {
		b[i] = byte(m.below(kinds))
	}
	return string(b)
}

// reference is Unpack as L1's words say it, byte by byte.
func reference(p string, size int) (string, api.Errno) {
	if size < 1 || size > api.MaxElement {
		return "", api.ErrArg
	}
	out := ""
	for i := 0; i < len(p); {
		c := int(p[i])
		i++
		if c < 32 {
			if len(out)+c+1 > size {
				return "", api.ErrSize
			}
			if i+c+1 > len(p) {
				return "", api.ErrShort
			}
			out += p[i : i+c+1]
			i += c + 1
			continue
		}
		length := c/32 + 2
		if c/32 == 7 {
			if i >= len(p) {
				return "", api.ErrShort
			}
			length += int(p[i])
			i++
		}
		if i >= len(p) {
			return "", api.ErrShort
		}
		start := len(out) - (c%32*256 + int(p[i]) + 1)
		i++
		if len(out)+length > size {
			return "", api.ErrSize
		}
		if start < 0 {
			return "", api.ErrRef
		}
		for k := range length {
			out += out[start+k : start+k+1]
		}
	}
	if len(out) < size {
		return "", api.ErrSize
	}
	return out, api.OK
}

// run, copyOf and long are pieces by the chapter's words.
func run(s string) string { return string([]byte{byte(len(s) - 1)}) + s }

func copyOf(length, back int) string {
	return string([]byte{byte((length-2)*32 + (back-1)/256), byte((back - 1) % 256)})
}

func long(length, back int) string {
	return string([]byte{byte(7*32 + (back-1)/256), byte(length - 9), byte((back - 1) % 256)})
}

// runs gives a text as runs of 32 bytes, the last one shorter.
func runs(s string) string {
	var b strings.Builder
	for s != "" {
		n := min(len(s), 32)
		b.WriteString(run(s[:n]))
		s = s[n:]
	}
	return b.String()
}

type unpacked struct {
	name, p string
	size    int
	want    string
	err     api.Errno
}

func checkUnpack(t *testing.T, cases []unpacked) {
	t.Helper()
	for _, c := range cases {
		got, err := Unpack(c.p, c.size)
		if got != c.want || err != c.err {
			t.Errorf("%s: Unpack(%.40q, %d) = %.40q (%d bytes), %d; want %.40q (%d bytes), %d", c.name, c.p, c.size, got, len(got), err, c.want, len(c.want), c.err)
		}
	}
}

func TestL1Examples(t *testing.T) {
	checkUnpack(t, []unpacked{
		{"a run", "\x02abc", 3, "abc", api.OK},
		{"a copy from one ahead", "\x00a\xc0\x00", 9, "aaaaaaaaa", api.OK},
		{"from ahead of the beginning", "\x00a\x20\x01", 4, "", api.ErrRef},
		{"a run cut off", "\x02a", 9, "", api.ErrShort},
		{"a run too long and cut off", "\x02a", 2, "", api.ErrSize},
		{"nothing", "", 1, "", api.ErrSize},
		{"a copy with a byte added", "\x00a\xe0\x01\x00", 11, "aaaaaaaaaaa", api.OK},
	})
}

func TestL1Sizes(t *testing.T) {
	most := strings.Repeat("b", api.MaxElement)
	p := run("b")
	for made := 1; made < len(most); {
		n := min(264, len(most)-made)
		p += long(n, 1)
		made += n
	}
	checkUnpack(t, []unpacked{
		{"size 1", "\x00x", 1, "x", api.OK},
		{"greatest size", p, api.MaxElement, most, api.OK},
		{"one below it", p, api.MaxElement - 1, "", api.ErrSize},
		{"one above it", p, api.MaxElement + 1, "", api.ErrArg},
		{"greatest size as runs", runs(most), api.MaxElement, most, api.OK},
		{"few bytes, a great size", "\x00x", api.MaxElement, "", api.ErrSize},
	})
	for _, size := range []int{0, -1, -2, math.MinInt, api.MaxElement + 1, 2 * api.MaxElement, 1 << 32, math.MaxInt} {
		// Whatever else is wrong, the size is told first.
		for _, p := range []string{"", "\x00x", "\x02a", "\x20", "\x20\x00", "\xe0\x01", "\xff\xff\xff"} {
			checkUnpack(t, []unpacked{{"size out of range", p, size, "", api.ErrArg}})
		}
	}
}

func TestL1Runs(t *testing.T) {
	m := mix(7)
	for n := 1; n <= 32; n++ {
		s := m.text(n, 256)
		checkUnpack(t, []unpacked{
			{"one run", run(s), n, s, api.OK},
			{"two runs", run(s) + run(s), 2 * n, s + s, api.OK},
			{"more is told", run(s), n + 1, "", api.ErrSize},
		})
	}
	s := m.text(1000, 256)
	checkUnpack(t, []unpacked{{"many runs", runs(s), len(s), s, api.OK}})
}

func TestL1CopyLengths(t *testing.T) {
	base := "0123456789"
	for length := 3; length <= 264; length++ {
		p := copyOf(length, 10)
		if length > 8 {
			p = long(length, 10)
		}
		want := base + strings.Repeat(base, 27)[:length]
		checkUnpack(t, []unpacked{
			{"a copy", run(base) + p, len(want), want, api.OK},
			{"one byte too much", run(base) + p, len(want) - 1, "", api.ErrSize},
			{"one byte too few", run(base) + p, len(want) + 1, "", api.ErrSize},
		})
	}
}

func TestL1CopyPlaces(t *testing.T) {
	m := mix(9)
	base := m.text(9000, 256)
	for _, back := range []int{1, 2, 3, 255, 256, 257, 258, 511, 512, 513, 4096, 7936, 7937, 8191, 8192} {
		from := len(base) - back
		for _, length := range []int{3, 8, 9, 264} {
			p := copyOf(length, back)
			if length > 8 {
				p = long(length, back)
			}
			want := base
			for i := range length {
				want += want[from+i : from+i+1]
			}
			first := base[:back]
			firstWant := first
			for i := range length {
				firstWant += firstWant[i : i+1]
			}
			checkUnpack(t, []unpacked{
				{"from within", runs(base) + p, len(want), want, api.OK},
				{"from the first byte", runs(first) + p, len(firstWant), firstWant, api.OK},
				{"from one ahead of the first byte", runs(first[1:]) + p, len(firstWant) - 1, "", api.ErrRef},
			})
		}
	}
}

func TestL1CopyOfItself(t *testing.T) {
	checkUnpack(t, []unpacked{
		{"one byte", run("z") + long(264, 1), 265, strings.Repeat("z", 265), api.OK},
		{"two bytes, odd", run("xy") + copyOf(5, 2), 7, "xyxyxyx", api.OK},
		{"three bytes", run("abc") + copyOf(8, 3), 11, "abcabcabcab", api.OK},
		{"part of them", run("abcd") + copyOf(6, 2), 10, "abcdcdcdcd", api.OK},
		{"a copy of a copy", run("ab") + copyOf(4, 2) + copyOf(3, 1), 9, "abababbbb", api.OK},
		{"a run behind a copy", run("ab") + copyOf(3, 1) + run("c") + copyOf(3, 6), 9, "abbbbcabb", api.OK},
	})
}

func TestL1Short(t *testing.T) {
	for n := 1; n <= 32; n++ {
		whole := run(strings.Repeat("q", n))
		for cut := 1; cut < len(whole); cut++ {
			checkUnpack(t, []unpacked{
				{"a run cut off", whole[:cut], n, "", api.ErrShort},
				{"a run cut off behind another", "\x01ab" + whole[:cut], n + 2, "", api.ErrShort},
			})
		}
	}
	checkUnpack(t, []unpacked{
		{"a copy without its low byte", "\x01ab" + copyOf(4, 2)[:1], 6, "", api.ErrShort},
		{"a long one without the added byte", "\x01ab" + long(20, 2)[:1], 22, "", api.ErrShort},
		{"a long one without its low byte", "\x01ab" + long(20, 2)[:2], 22, "", api.ErrShort},
		{"a copy's first byte alone", "\x20", 3, "", api.ErrShort},
		{"a long one's first byte alone", "\xff", 9, "", api.ErrShort},
	})
}

func TestL1Order(t *testing.T) {
	checkUnpack(t, []unpacked{
		{"a run too long, its bytes there", "\x02abc", 2, "", api.ErrSize},
		{"a run too long, no byte there", "\x02", 2, "", api.ErrSize},
		{"a run that fits, no byte there", "\x02", 3, "", api.ErrShort},
		{"the second run too long, no byte there", "\x00a\x01", 2, "", api.ErrSize},
		{"a copy too long and cut off", "\x00a\x20", 2, "", api.ErrShort},
		{"a long copy too long and cut off", "\x00a\xe0\xff", 2, "", api.ErrShort},
		{"a copy too long", "\x00a\x20\x00", 3, "", api.ErrSize},
		{"a long copy too long by the byte that is added", "\x00a\xe0\x01\x00", 10, "", api.ErrSize},
		{"a copy too long from ahead of the beginning", "\x00a\x20\x01", 3, "", api.ErrSize},
		{"a copy from ahead of the beginning", "\x00a\x20\x01", 4, "", api.ErrRef},
		{"a copy from ahead of the beginning, more is told", "\x00a\x20\x01", 99, "", api.ErrRef},
		{"a copy where there is nothing", "\x20\x00", 3, "", api.ErrRef},
		{"a copy by its high byte from ahead of the beginning", "\x00a\x21\x00", 4, "", api.ErrRef},
		{"a fault behind the end of what is told", "\x00a\x20", 1, "", api.ErrShort},
		{"a run behind the end of what is told", "\x00a\x00b", 1, "", api.ErrSize},
		{"fewer, and then a fault", "\x00a\x20\x05\x20", 50, "", api.ErrRef},
		{"a fault, and then too much", "\x00a\x20\x01\x1f", 4, "", api.ErrRef},
	})
}

// TestL1All holds every text of few bytes, of those that differ for the form, against the chapter's words.
func TestL1All(t *testing.T) {
	alphabet := []byte{0, 1, 2, 31, 32, 33, 64, 192, 224, 255}
	texts := []string{""}
	for from := 0; len(texts[from]) < 5; from++ {
		for _, c := range alphabet {
			texts = append(texts, texts[from]+string([]byte{c}))
		}
	}
	for _, p := range texts {
		for _, size := range []int{1, 2, 3, 4, 5, 9, 10, 12} {
			want, wantErr := reference(p, size)
			if got, err := Unpack(p, size); got != want || err != wantErr {
				t.Fatalf("Unpack(%q, %d) = %q, %d; want %q, %d", p, size, got, err, want, wantErr)
			}
		}
	}
}

// TestL1Mixed makes texts of pieces that mostly fit, and breaks some of them.
func TestL1Mixed(t *testing.T) {
	m := mix(11)
	seen := map[api.Errno]int{}
	for range 30000 {
		p, made := "", 0
		for range 1 + m.below(6) {
			switch m.below(3) {
			case 0:
				n := 1 + m.below(32)
				p += run(m.text(n, 256))
				made += n
			case 1:
				n := 3 + m.below(6)
				p += copyOf(n, 1+m.below(made+1))
				made += n
			default:
				n := 9 + m.below(256)
				p += long(n, 1+m.below(made+1))
				made += n
			}
		}
		size := made
		switch m.below(8) {
		case 0:
			p = p[:m.below(len(p))]
		case 1:
			size += m.below(40) - 20
		case 2:
			i := m.below(len(p))
			p = p[:i] + m.text(1, 256) + p[i+1:]
		}
		want, wantErr := reference(p, size)
		seen[wantErr]++
		if got, err := Unpack(p, size); got != want || err != wantErr {
			t.Fatalf("Unpack(%q, %d) = %q, %d; want %q, %d", p, size, got, err, want, wantErr)
		}
	}
	for _, e := range []api.Errno{api.OK, api.ErrArg, api.ErrShort, api.ErrRef, api.ErrSize} {
		if seen[e] < 100 {
			t.Errorf("error %d came only %d times", e, seen[e])
		}
	}
}

// TestL3NoMore: bytes that would make far more than is told make no more than that.
func TestL3NoMore(t *testing.T) {
	hostile := run("a") + strings.Repeat(long(264, 1), 100000)
	for _, size := range []int{1, 2, 264, 265, 266, 1000, 5000} {
		var before, after runtime.MemStats
		runtime.ReadMemStats(&before)
		got, err := Unpack(hostile, size)
		runtime.ReadMemStats(&after)
		if got != "" || err != api.ErrSize {
			t.Errorf("size %d: %d bytes, %d", size, len(got), err)
		}
		if took := after.TotalAlloc - before.TotalAlloc; took > uint64(16*size+1<<16) {
			t.Errorf("size %d: took %d bytes", size, took)
		}
	}
	m := mix(13)
	for range 20000 {
		size := 1 + m.below(64)
		if got, err := Unpack(m.text(m.below(24), 256), size); len(got) > size || err == api.OK && len(got) != size || err != api.OK && got != "" {
			t.Fatalf("size %d: %d bytes, %d", size, len(got), err)
		}
	}
}

// TestL3FewBytes: few bytes that claim a great size take no memory for it.
func TestL3FewBytes(t *testing.T) {
	var before, after runtime.MemStats
	runtime.ReadMemStats(&before)
	for range 1000 {
		if got, err := Unpack("\x02abc", api.MaxElement); got != "" || err != api.ErrSize {
			t.Fatalf("%q, %d", got, err)
		}
	}
	runtime.ReadMemStats(&after)
	if took := after.TotalAlloc - before.TotalAlloc; took > 1<<24 {
		t.Errorf("took %d bytes", took)
	}
}
