package listpack

import (
	"iter"
	"math"
	"runtime"
	"slices"
	"strconv"
	"strings"
	"sync"
	"testing"
	"unsafe"

	"cistern/api"
)

func TestExamples(t *testing.T) {
	checkNew(t, "\x07\x00\x00\x00\x00\x00\xff", api.OK)
	checkNew(t, "\x0c\x00\x00\x00\x02\x00\x81\x61\x02\x01\x01\xff", api.OK, "a", "1")
	for value, want := range map[string]int{"127": 2, "128": 3, "-1": 3, "4096": 4, "8388608": 6, "2147483648": 10, "007": 5, strings.Repeat("-", 63): 65, strings.Repeat("-", 64): 67, strings.Repeat("-", 4096): 4103} {
		checkSize(t, value, want)
	}
	for _, p := range []string{"", "\x07\x00\x00\x00\x01\x00\xff", "\x0a\x00\x00\x00\x01\x00\x81\x31\x02\xff"} {
		if err := Valid(p); err != api.ErrListpack {
			t.Errorf("Valid(%q) = %d", p, err)
		}
	}
	p := of("a", "1", "b")
	checkText(t, "At", 1, p)(At(p, 1))("1", api.OK)
	checkText(t, "At", 3, p)(At(p, 3))("", api.ErrNone)
	checkText(t, "Insert", 3, p)(Insert(p, 3, "c"))(New("a", "1", "b", "c"))
	checkText(t, "Set", 0, p)(Set(p, 0, "z"))(New("z", "1", "b"))
	checkText(t, "Delete", 1, p)(Delete(p, 1, 9))(New("a"))
	checkFind(t, p, 0, 2, "b", 2, api.OK)
	checkFind(t, p, 0, 2, "1", -1, api.OK)
	if list, err := Walk(p, true); !slices.Equal(list, []string{"b", "1", "a"}) || err != api.OK {
		t.Errorf("Walk(%q, true) = %q, %d", p, list, err)
	}
}

func checkNew(t *testing.T, want string, wantErr api.Errno, values ...string) {
	t.Helper()
	if p, err := New(values...); p != want || err != wantErr {
		t.Errorf("New of %d values %.60q = %.60q, %d; want %.60q, %d", len(values), values[:min(len(values), 3)], p, err, want, wantErr)
	}
}

func checkSize(t *testing.T, value string, want int) {
	t.Helper()
	if size := Size(value); size != want {
		t.Errorf("Size of %d bytes, %.30q = %d, want %d", len(value), value, size, want)
	}
}

func checkFind(t *testing.T, p string, from, step int, value string, want int, wantErr api.Errno) {
	t.Helper()
	if i, err := Find(p, from, step, value); i != want || err != wantErr {
		t.Errorf("Find(%.60q, %d, %d, %.30q) = %d, %d; want %d, %d", p, from, step, value, i, err, want, wantErr)
	}
}

// numbers are the texts of the numbers at which a form ends, and of those beside them.
func numbers() []string {
	list := []int{math.MinInt, math.MinInt + 1, math.MaxInt - 1, math.MaxInt, 9, 10, 99, 100}
	for _, edge := range []int{0, 127, 128, -1, -128, -4096, 4095, 1 << 13, -1 << 13, -1 << 15, 1<<15 - 1, -1 << 16, 1 << 16, -1 << 23, 1<<23 - 1, -1 << 24, 1 << 24, -1 << 31, 1<<31 - 1, -1 << 32, 1 << 32, 1 << 53, -1 << 53, 1 << 62} {
		list = append(list, edge-1, edge, edge+1)
	}
	var texts []string
	for _, n := range list {
		texts = append(texts, strconv.Itoa(n))
	}
	return texts
}

// looks are texts that look like numbers, and are no number's.
func looks() []string {
	return []string{
		"007", "00", "01", "-0", "+1", "+0", " 1", "1 ", "1\n", "\x001", "1\x00", "-", "+", "--1", "-01", "1-", "1.0", "1e3", "0x1", "1_000", "٣", "0b1",
		"9223372036854775808", "-9223372036854775809", "92233720368547758070", "10000000000000000000", "18446744073709551615", "18446744073709551616", "-18446744073709551615", "-92233720368547758080",
		"00000000000000000001", "-0000000000000000001", "000000000000000000001",
	}
}

// texts are those of the lengths at which a head, or the back length, grows; with both bytes that count as digits and others.
func texts() []string {
	var list []string
	for _, size := range []int{0, 1, 2, 62, 63, 64, 65, 125, 126, 127, 128, 4094, 4095, 4096, 4097, 16378, 16379, 16381, 16382, 16383, 16384, 1<<16 - 1, 1 << 16, 1<<19 - 1, 1 << 19} {
		list = append(list, strings.Repeat("\xff", size))
	}
	return append(list, strings.Repeat("1", 20), strings.Repeat("1", 21), strings.Repeat("9", 64), strings.Repeat("1", 5000), "a", "\x00", "\x80", "\xff", "text", "\r\n")
}

func edges() []string { return slices.Concat(numbers(), looks(), texts()) }

// TestP61Forms: New of one value, and of the value between others, at all edges.
func TestP61Forms(t *testing.T) {
	for _, value := range edges() {
		checkNew(t, of(value), api.OK, value)
		checkNew(t, of("a", value, "1", value), api.OK, "a", value, "1", value)
	}
}

// TestP61Bytes: the bytes of each form, one by one.
func TestP61Bytes(t *testing.T) {
	x := strings.Repeat("x", 1<<19)
	for _, c := range []struct{ value, entry string }{
		{"0", "\x00\x01"}, {"127", "\x7f\x01"}, {"128", "\xc0\x80\x02"}, {"-1", "\xdf\xff\x02"}, {"-4096", "\xd0\x00\x02"}, {"4095", "\xcf\xff\x02"},
		{"4096", "\xf1\x00\x10\x03"}, {"-4097", "\xf1\xff\xef\x03"}, {"-32768", "\xf1\x00\x80\x03"}, {"32767", "\xf1\xff\x7f\x03"},
		{"32768", "\xf2\x00\x80\x00\x04"}, {"-32769", "\xf2\xff\x7f\xff\x04"}, {"-8388608", "\xf2\x00\x00\x80\x04"}, {"8388607", "\xf2\xff\xff\x7f\x04"},
		{"8388608", "\xf3\x00\x00\x80\x00\x05"}, {"-8388609", "\xf3\xff\xff\x7f\xff\x05"}, {"-2147483648", "\xf3\x00\x00\x00\x80\x05"}, {"2147483647", "\xf3\xff\xff\xff\x7f\x05"},
		{"2147483648", "\xf4\x00\x00\x00\x80\x00\x00\x00\x00\x09"}, {"-2147483649", "\xf4\xff\xff\xff\x7f\xff\xff\xff\xff\x09"},
		{"-9223372036854775808", "\xf4\x00\x00\x00\x00\x00\x00\x00\x80\x09"}, {"9223372036854775807", "\xf4\xff\xff\xff\xff\xff\xff\xff\x7f\x09"}, {"72623859790382856", "\xf4\x08\x07\x06\x05\x04\x03\x02\x01\x09"},
		{"", "\x80\x01"}, {"007", "\x83007\x04"}, {"-0", "\x82-0\x03"}, {"9223372036854775808", "\x939223372036854775808\x14"},
		{x[:63], "\xbf" + x[:63] + "\x40"}, {x[:64], "\xe0\x40" + x[:64] + "\x42"}, {x[:125], "\xe0\x7d" + x[:125] + "\x7f"}, {x[:126], "\xe0\x7e" + x[:126] + "\x01\x80"},
		{x[:4095], "\xef\xff" + x[:4095] + "\x20\x81"}, {x[:4096], "\xf0\x00\x10\x00\x00" + x[:4096] + "\x20\x85"},
		{x[:16378], "\xf0\xfa\x3f\x00\x00" + x[:16378] + "\x7f\xff"}, {x[:16379], "\xf0\xfb\x3f\x00\x00" + x[:16379] + "\x01\x80\x80"},
		{x, "\xf0\x00\x00\x08\x00" + x + "\x20\x80\x85"},
	} {
		checkNew(t, lay(1, c.entry), api.OK, c.value)
		checkSize(t, c.value, len(c.entry))
	}
}

// TestP61Long: a value that is too long, at any place.
func TestP61Long(t *testing.T) {
	long := strings.Repeat("x", 1<<19+1)
	checkNew(t, "", api.ErrLong, long)
	checkNew(t, "", api.ErrLong, "a", long)
	checkNew(t, "", api.ErrLong, long, "a")
	checkNew(t, "", api.ErrLong, strings.Repeat("1", 1<<19+1))
	checkNew(t, of(long[1:], long[1:]), api.OK, long[1:], long[1:])
}

// TestP61Counts: the head's count, which has two bytes alone, and the greatest number of entries.
func TestP61Counts(t *testing.T) {
	for _, count := range []int{1, 255, 256, 257, 65534, 65535, 65536, 65537, 1 << 17} {
		values := many(count)
		p := of(values...)
		checkNew(t, p, api.OK, values...)
		if told := int(p[4]) | int(p[5])<<8; told != min(count, 65535) {
			t.Errorf("%d entries: the head says %d", count, told)
		}
		judgeWhole(t, p, model{values, true})
		for _, n := range []int{count - 1, count + 1, 0, 65535} {
			if q := lay(n, p[6:len(p)-1]); q != p {
				judgeWhole(t, q, model{})
			}
		}
	}
}

// many are so many values, short ones of all kinds.
func many(count int) []string {
	values := make([]string, count)
	for i := range values {
		values[i] = [...]string{"", "7", "x", "-1", "300"}[i%5]
	}
	return values
}

// TestP61MaxCount: MaxCount entries, and one more, by each call that could make it.
func TestP61MaxCount(t *testing.T) {
	values := many(1<<20 + 1)
	checkNew(t, "", api.ErrLong, values...)
	p := of(values[:1<<20]...)
	checkNew(t, p, api.OK, values[:1<<20]...)
	judgeWhole(t, p, model{values[:1<<20], true})
	more := of(values...)
	judgeWhole(t, more, model{})
	checkText(t, "Delete", 0, more)(Delete(more, 0, 5))("", api.ErrListpack)
	checkText(t, "Insert", 5, p)(Insert(p, 5, "a"))("", api.ErrLong)
	checkText(t, "Insert", 0, p)(Insert(p, 0))(p, api.OK)
	checkText(t, "Insert", -1, p)(Insert(p, -1, "a"))("", api.ErrArg)
	checkText(t, "Set", 1<<20-1, p)(Set(p, 1<<20-1, "b"))(of(append(slices.Clone(values[:1<<20-1]), "b")...), api.OK)
	less := of(values[:1<<20-2]...)
	checkText(t, "Delete", 1<<20-2, p)(Delete(p, 1<<20-2, 9))(less, api.OK)
	checkText(t, "Insert", 1<<20-2, less)(Insert(less, 1<<20-2, values[1<<20-2:1<<20]...))(p, api.OK)
	checkText(t, "Insert", 0, less)(Insert(less, 0, "a", "b", "c"))("", api.ErrLong)
	checkText(t, "At", 1<<20-1, p)(At(p, 1<<20-1))(values[1<<20-1], api.OK)
}

// full are values whose listpack has just MaxFile bytes; the last one is short.
func full() []string {
	long := strings.Repeat("x", 1<<19)
	var values []string
	left := 1<<30 - 7
	for ; left > 2*(1<<19); left -= 1<<19 + 8 {
		values = append(values, long)
	}
	half := long[:left/2]
	values = append(values, half)
	left -= len(half) + 8
	return append(values, long[:left-8])
}

// TestP61MaxFile: just MaxFile bytes, and one more.
func TestP61MaxFile(t *testing.T) {
	values := full()
	p, err := New(values...)
	if len(p) != 1<<30 || err != api.OK || Valid(p) != api.OK {
		t.Fatalf("New of a full list has %d bytes, %d", len(p), err)
	}
	if p[:4] != "\x00\x00\x00\x40" || p[len(p)-1] != 0xff {
		t.Errorf("its head is %q, its end %q", p[:6], p[len(p)-1:])
	}
	last := len(values) - 1
	if n, err := Len(p); n != len(values) || err != api.OK {
		t.Errorf("Len = %d, %d", n, err)
	}
	checkText(t, "At", last, p)(At(p, last))(values[last], api.OK)
	checkText(t, "Insert", 0, p)(Insert(p, 0, ""))("", api.ErrLong)
	checkText(t, "Set", last, p)(Set(p, last, values[last]+"x"))("", api.ErrLong)
	values[last] += "x"
	checkNew(t, "", api.ErrLong, values...)
	checkNew(t, "", api.ErrLong, slices.Repeat([]string{values[0]}, 1<<11)...)
	checkNew(t, "", api.ErrLong, slices.Repeat([]string{values[0]}, 1<<20)...)
}

// TestP62MaxFile: a text of more than MaxFile bytes whose every part is sound is none.
func TestP62MaxFile(t *testing.T) {
	values := full()
	values[len(values)-1] += "x"
	var b strings.Builder
	b.Grow(1<<30 + 1)
	b.WriteString("\x01\x00\x00\x40" + lay(len(values))[4:6])
	for _, value := range values {
		b.WriteString(text32Head(len(value)))
		b.WriteString(value)
		b.WriteString(behind(5 + len(value)))
	}
	b.WriteString("\xff")
	if err := Valid(b.String()); b.Len() != 1<<30+1 || err != api.ErrListpack {
		t.Errorf("Valid of %d bytes = %d", b.Len(), err)
	}
}

// wrong are texts that are no listpacks.
func wrong() []string {
	list := []string{"", "\xff", strings.Repeat("\x00", 7), strings.Repeat("\xff", 7), strings.Repeat("\x00", 100), strings.Repeat("\xff", 100), "a text that is none"}
	for size := range 6 {
		list = append(list, of()[:size+1], of("a")[:size], strings.Repeat("\x00", size), strings.Repeat("\xff", size), string([]byte{byte(size), 0, 0, 0, 0, 0, 0xff})[:size])
		list = append(list, string([]byte{byte(size + 1), 0, 0, 0, 0, 0})[:size]+"\xff")
	}
	return slices.Concat(list, wrongHeads(), wrongEnds(), wrongNumbers(), wrongTexts(), wrongBacks())
}

// wrongHeads tell too few or too many bytes or entries.
func wrongHeads() []string {
	var list []string
	for _, p := range []string{of(), of("a"), of("a", "1", "b"), of(strings.Repeat("x", 300))} {
		for i := range 6 {
			for _, by := range []byte{1, 2, 0x10, 0x80, 0xff} {
				b := []byte(p)
				b[i] += by
				list = append(list, string(b))
			}
		}
		list = append(list, "\x00\x00\x00\x00"+p[4:], "\xff\xff\xff\xff"+p[4:], p[:4]+"\xff\xff"+p[6:], p[:4]+"\xfe\xff"+p[6:])
	}
	return list
}

// wrongEnds have an end that is missing, stands twice, or has something behind it.
func wrongEnds() []string {
	var list []string
	for _, values := range [][]string{{}, {"a"}, {"a", "1", "b"}} {
		p := of(values...)
		body := p[6 : len(p)-1]
		count := len(values)
		for _, tail := range []string{"\x00", "\xfe", "\x80", "\x7f", "\x01\x01"} {
			list = append(list, lay(count, body+tail)[:6+len(body)+len(tail)], lay(count, body+tail)[:6]+body+tail+"\x00")
			list = append(list, lay(count, body, tail), p[:len(p)-1]+tail, p+tail, lay(count, body, "\xff", tail), lay(count, "\xff", body, tail))
		}
		list = append(list, lay(count, body, "\xff"), lay(count+1, body, "\xff"), lay(count, "\xff", body), lay(count, body, "\xff\xff"), p+"\xff", p[:len(p)-1], lay(count+1, body, "\xff\x01"), lay(count+1, "\xff\x01", body))
	}
	return list
}

// wrongNumbers are in another form than their own, or in none.
func wrongNumbers() []string {
	var entries []string
	for _, n := range []int{0, 1, 127} {
		entries = append(entries, number13Head(n))
	}
	for _, n := range []int{0, 127, 128, -1, -4096, 4095} {
		entries = append(entries, wideHead(0xf1, 2, n))
	}
	for _, n := range []int{0, -1, 128, 4096, -4097, -1 << 15, 1<<15 - 1} {
		entries = append(entries, wideHead(0xf2, 3, n))
	}
	for _, n := range []int{0, -1, 4096, 1 << 15, -1<<15 - 1, -1 << 23, 1<<23 - 1} {
		entries = append(entries, wideHead(0xf3, 4, n))
	}
	for _, n := range []int{0, -1, 300, 1 << 15, 1 << 23, -1<<23 - 1, -1 << 31, 1<<31 - 1} {
		entries = append(entries, wideHead(0xf4, 8, n))
	}
	for head := 0xf5; head <= 0xff; head++ {
		for width := range 18 {
			entries = append(entries, wideHead(byte(head), min(width, 8), 1<<62))
		}
	}
	return around(entries)
}

// wrongTexts are numbers' texts, and texts whose length is told in more bytes than it needs.
func wrongTexts() []string {
	var entries []string
	for _, n := range numbers() {
		entries = append(entries, text6Head(len(n))+n, text12Head(len(n))+n, text32Head(len(n))+n)
	}
	for _, size := range []int{0, 1, 62, 63} {
		entries = append(entries, text12Head(size)+strings.Repeat("x", size))
	}
	for _, size := range []int{0, 1, 63, 64, 4094, 4095} {
		entries = append(entries, text32Head(size)+strings.Repeat("x", size))
	}
	for shift := 12; shift < 32; shift++ {
		entries = append(entries, text32Head(4096+1<<shift)+strings.Repeat("x", 4096))
	}
	return around(append(entries, text32Head(1<<19+1)+strings.Repeat("x", 1<<19+1)))
}

// around are listpacks but for one entry, which is the first, the last, or between others.
func around(entries []string) []string {
	var list []string
	for _, entry := range entries {
		e, a, one := closed(entry), closed(byHead("a")), closed(byHead("1"))
		list = append(list, lay(1, e), lay(2, e, a), lay(2, one, e), lay(3, a, e, one))
	}
	return list
}

// wrongBacks have a back length that is wrong, has a byte too many or too few, and entries that go beyond the end.
func wrongBacks() []string {
	var list []string
	for _, value := range []string{"1", "300", "a", "", "-5000", strings.Repeat("x", 63), strings.Repeat("x", 125), strings.Repeat("x", 126), strings.Repeat("x", 200), strings.Repeat("x", 16400)} {
		data := byHead(value)
		size := len(data)
		a := closed(byHead("a"))
		backs := []string{"", "\x00" + behind(size), behind(size) + "\x80", "\x00" + string([]byte{byte(size%128 + 128)}), behind(size + 1), behind(size - 1), behind(size * 128), behind(size + 128), "\x80" + behind(size), string([]byte{byte(size%128 + 128)}), string([]byte{byte(size % 128)}), "\x80\x80" + behind(size)}
		for _, back := range backs {
			if back != behind(size) {
				list = append(list, lay(1, data+back), lay(2, data+back, a), lay(2, a, data+back))
			}
		}
		for cut := range min(size, 10) {
			list = append(list, lay(1, data[:cut]), lay(2, a, data[:cut]), lay(1, data[:size-cut]), lay(2, a, data[:size-cut]))
		}
	}
	for _, head := range []string{"\x81", "\xbf", "\xe0", "\xef\xff", "\xe0\x40", "\xf0", "\xf0\x01", "\xf0\x00\x10\x00", "\xf0\x00\x10\x00\x00", "\xf0\xff\xff\xff\xff", "\xf0\xff\xff\xff\x7f", "\xf0\x00\x00\x00\x80", "\xc0", "\xdf", "\xf1\x00", "\xf2\x00\x00", "\xf3\x00\x00\x00", "\xf4\x00\x00\x00\x00\x00\x00\x00"} {
		list = append(list, lay(1, head), lay(2, closed(byHead("a")), head), lay(1, closed(head)), lay(1, head+"\x02"))
	}
	return list
}

// TestP62Wrong: what is no listpack is none; P6.3: each other call says so ahead of all else.
func TestP62Wrong(t *testing.T) {
	for _, p := range wrong() {
		if modelOf(p).sound {
			t.Errorf("the test is at fault: %.60q", p)
		}
		if err := Valid(p); err != api.ErrListpack {
			t.Errorf("Valid(%.60q) = %d", p, err)
		}
	}
}

func TestP63Wrong(t *testing.T) {
	for i, p := range wrong() {
		if len(p) < 300 || i%7 == 0 {
			judgeRefused(t, p)
		}
	}
}

// judgeRefused holds each call of a text that is no listpack against P6.3, where another error would come too.
func judgeRefused(t *testing.T, p string) {
	t.Helper()
	judgeWhole(t, p, model{})
	long := strings.Repeat("x", 1<<19+1)
	for _, i := range []int{math.MinInt, -1, 0, 1, 2, 7, math.MaxInt} {
		checkText(t, "At", i, p)(At(p, i))("", api.ErrListpack)
		checkText(t, "Set", i, p)(Set(p, i, "a"))("", api.ErrListpack)
		checkText(t, "Set", i, p)(Set(p, i, long))("", api.ErrListpack)
		checkText(t, "Insert", i, p)(Insert(p, i))("", api.ErrListpack)
		checkText(t, "Insert", i, p)(Insert(p, i, "a", long))("", api.ErrListpack)
		checkText(t, "Delete", i, p)(Delete(p, i, 0))("", api.ErrListpack)
		checkText(t, "Delete", i, p)(Delete(p, i, -1))("", api.ErrListpack)
		checkFind(t, p, i, 1, "a", 0, api.ErrListpack)
		checkFind(t, p, 0, i, long, 0, api.ErrListpack)
	}
}

// TestP62Byte: a listpack of which one byte is another one is what New answers of some values, or none.
func TestP62Byte(t *testing.T) {
	for _, p := range []string{of(), of("a", "1"), of("300", "-5000", "", "007"), of("70000", "x", "-9000000", "12345678901"), of(strings.Repeat("y", 64), "b")} {
		for i := range len(p) {
			for b := range 256 {
				q := p[:i] + string([]byte{byte(b)}) + p[i+1:]
				judgeWhole(t, q, modelOf(q))
			}
		}
	}
}

// TestP62Mixed: bytes of any kind, and listpacks with some of them changed.
func TestP62Mixed(t *testing.T) {
	m := mix(62)
	sound := 0
	for range 20000 {
		p := lay(m.below(4), m.bytes(m.below(12)))
		if m.below(2) == 0 {
			b := []byte(of(m.values(m.below(5))...))
			for range 1 + m.below(2) {
				b[m.below(len(b))] = byte(m.next() >> 16)
			}
			p = string(b)
		}
		want := modelOf(p)
		judgeWhole(t, p, want)
		if want.sound {
			sound++
		}
	}
	if sound < 100 {
		t.Errorf("the test is at fault: %d of all are sound", sound)
	}
}

// TestP62Memory: a text that is taken or refused takes no more memory than a fixed multiple of its bytes, whatever lengths and counts it tells.
func TestP62Memory(t *testing.T) {
	entries := strings.Repeat(closed(byHead("1x")), 1<<16)
	for _, p := range []string{lay(65535, entries), lay(65534, entries), lay(65535, entries, "\xf0\xff\xff\xff\xff"), lay(1, "\xf0\xff\xff\xff\x7f"), lay(65535), lay(1, closed(byHead(strings.Repeat("1", 1<<19))))} {
		var before, after runtime.MemStats
		runtime.ReadMemStats(&before)
		Valid(p)
		runtime.ReadMemStats(&after)
		if took := after.TotalAlloc - before.TotalAlloc; took > 64*uint64(len(p))+1<<14 {
			t.Errorf("Valid of %d bytes, %.20q took %d bytes", len(p), p, took)
		}
	}
}

// TestP64Values: Len, At and Walk of lists of no, of one and of many values.
func TestP64Values(t *testing.T) {
	lists := [][]string{{}, {"a"}, {""}, {"1"}, {"a", "1"}, {"1", "a"}, {"", "", ""}, {"0", "0"}, {"\xff", "\xff\xff"}, numbers(), looks(), texts(), edges()}
	for _, list := range lists {
		p := of(list...)
		judgeWhole(t, p, model{list, true})
		for i := -2; i < len(list)+2; i++ {
			want, wantErr := "", api.ErrNone
			if i >= 0 && i < len(list) {
				want, wantErr = list[i], api.OK
			}
			checkText(t, "At", i, p)(At(p, i))(want, wantErr)
		}
		checkText(t, "At", math.MinInt, p)(At(p, math.MinInt))("", api.ErrNone)
		checkText(t, "At", math.MaxInt, p)(At(p, math.MaxInt))("", api.ErrNone)
	}
}

// TestP64Left: a walk may be left early, either way.
func TestP64Left(t *testing.T) {
	l, _ := read(of("a", "1", "b"))
	for _, c := range []struct {
		entries iter.Seq2[int, entry]
		places  []int
	}{{l.forward(), []int{0, 1}}, {l.backward(), []int{2, 1}}} {
		var places []int
		for place := range c.entries {
			places = append(places, place)
			if place == 1 {
				break
			}
		}
		if !slices.Equal(places, c.places) {
			t.Errorf("walked %v, want %v", places, c.places)
		}
	}
}

// TestP65Insert: at the first place, between two, behind all, and beyond; of no value, of one and of many.
func TestP65Insert(t *testing.T) {
	long := strings.Repeat("x", 1<<19+1)
	for _, list := range [][]string{{}, {"a"}, {"a", "1", "b"}, {"", "-300", strings.Repeat("x", 200), "100000", "7"}} {
		p := of(list...)
		for _, values := range [][]string{nil, {}, {""}, {"c"}, {"9"}, {"c", "9", "", "c"}, edges()[:60], {strings.Repeat("z", 5000)}} {
			for i := range len(list) + 1 {
				checkText(t, "Insert", i, p)(Insert(p, i, values...))(of(slices.Insert(slices.Clone(list), i, values...)...), api.OK)
			}
			for _, i := range []int{math.MinInt, -2, -1, len(list) + 1, len(list) + 2, math.MaxInt} {
				checkText(t, "Insert", i, p)(Insert(p, i, values...))("", api.ErrArg)
			}
		}
		for i := range len(list) + 1 {
			checkText(t, "Insert", i, p)(Insert(p, i, long))("", api.ErrLong)
			checkText(t, "Insert", i, p)(Insert(p, i, "a", long, "b"))("", api.ErrLong)
			checkText(t, "Insert", i, p)(Insert(p, i, long[1:]))(of(slices.Insert(slices.Clone(list), i, long[1:])...), api.OK)
		}
		checkText(t, "Insert", -1, p)(Insert(p, -1, long))("", api.ErrArg)
		checkText(t, "Insert", len(list)+1, p)(Insert(p, len(list)+1, long))("", api.ErrArg)
	}
}

// TestP65Counts: the head's count where it comes to, and goes beyond, what two bytes tell.
func TestP65Counts(t *testing.T) {
	values := many(65537)
	for count := 65533; count < 65537; count++ {
		p := of(values[:count]...)
		checkText(t, "Insert", count, p)(Insert(p, count, values[count]))(of(values[:count+1]...), api.OK)
		checkText(t, "Set", 3, p)(Set(p, 3, values[3]))(p, api.OK)
		q := of(values[:count+1]...)
		checkText(t, "Delete", count, q)(Delete(q, count, 1))(p, api.OK)
	}
}

// TestP66Set: the first, the last and no entry, by shorter and by longer values.
func TestP66Set(t *testing.T) {
	long := strings.Repeat("x", 1<<19+1)
	for _, list := range [][]string{{}, {"a"}, {"a", "1", "b"}, {"", "-300", strings.Repeat("x", 200), "100000", "7"}} {
		p := of(list...)
		for _, value := range append(edges(), "another") {
			for i := range list {
				changed := slices.Clone(list)
				changed[i] = value
				checkText(t, "Set", i, p)(Set(p, i, value))(of(changed...), api.OK)
			}
		}
		for i := range list {
			checkText(t, "Set", i, p)(Set(p, i, long))("", api.ErrLong)
		}
		for _, i := range []int{math.MinInt, -1, len(list), len(list) + 1, math.MaxInt} {
			checkText(t, "Set", i, p)(Set(p, i, "a"))("", api.ErrNone)
			checkText(t, "Set", i, p)(Set(p, i, long))("", api.ErrNone)
		}
	}
}

// TestP66Delete: none, one, some, all and more than there are, from each place.
func TestP66Delete(t *testing.T) {
	for _, list := range [][]string{{}, {"a"}, {"a", "1", "b"}, {"", "-300", strings.Repeat("x", 200), "100000", "7"}} {
		p := of(list...)
		for i := range len(list) + 3 {
			for n := range len(list) + 3 {
				from, to := min(i, len(list)), min(i+n, len(list))
				checkText(t, "Delete", i, p)(Delete(p, i, n))(of(slices.Concat(list[:from], list[to:])...), api.OK)
			}
			checkText(t, "Delete", i, p)(Delete(p, i, math.MaxInt))(of(list[:min(i, len(list))]...), api.OK)
			checkText(t, "Delete", i, p)(Delete(p, i, -1))("", api.ErrArg)
			checkText(t, "Delete", i, p)(Delete(p, i, math.MinInt))("", api.ErrArg)
		}
		checkText(t, "Delete", -1, p)(Delete(p, -1, 1))("", api.ErrArg)
		checkText(t, "Delete", -1, p)(Delete(p, -1, 0))("", api.ErrArg)
		checkText(t, "Delete", math.MinInt, p)(Delete(p, math.MinInt, math.MinInt))("", api.ErrArg)
		checkText(t, "Delete", math.MaxInt, p)(Delete(p, math.MaxInt, math.MaxInt))(p, api.OK)
	}
}

// TestP67Find: all steps from all places, of values that stand there once, more than once and not at all.
func TestP67Find(t *testing.T) {
	list := []string{"a", "1", "b", "a", "01", "1", "", "a", "-7", "b", "70000", "a"}
	for count := range len(list) + 1 {
		p := of(list[:count]...)
		m := model{list[:count], true}
		for _, value := range []string{"a", "b", "1", "01", "001", "", "-7", "70000", "7", "none", "A", "\x01", "\x81a", strings.Repeat("a", 1<<19), strings.Repeat("a", 1<<19+1), strings.Repeat("1", 1<<20)} {
			for from := -2; from < count+3; from++ {
				for step := -2; step < count+3; step++ {
					want, wantErr := m.found(from, step, value)
					checkFind(t, p, from, step, value, want, wantErr)
				}
			}
		}
		checkFind(t, p, math.MaxInt, math.MaxInt, "a", -1, api.OK)
		checkFind(t, p, 0, math.MaxInt, "1", -1, api.OK)
		checkFind(t, p, 1, math.MaxInt, "none", -1, api.OK)
		checkFind(t, p, math.MinInt, 1, "a", 0, api.ErrArg)
		checkFind(t, p, 0, math.MinInt, "a", 0, api.ErrArg)
		checkFind(t, p, count, 1, "a", -1, api.OK)
	}
	for i, value := range edges() {
		if first := slices.Index(edges(), value); first == i {
			checkFind(t, of(edges()...), 0, 1, value, i, api.OK)
		}
	}
}

// TestP68Size: a listpack has 7 bytes and the Sizes of its values.
func TestP68Size(t *testing.T) {
	for _, value := range edges() {
		checkSize(t, value, len(closed(byHead(value))))
		checkSize(t, value, len(of(value))-7)
	}
	checkSize(t, strings.Repeat("x", 1<<19), 1<<19+8)
	checkSize(t, strings.Repeat("x", 1<<19+1), 0)
	checkSize(t, strings.Repeat("1", 1<<19+1), 0)
	checkSize(t, strings.Repeat("1", 1<<20), 0)
	m := mix(68)
	for range 2000 {
		values := m.values(m.below(20))
		sum := 7
		for _, value := range values {
			sum += Size(value)
		}
		if p, err := New(values...); len(p) != sum || err != api.OK {
			t.Errorf("New(%.60q) has %d bytes, %d; the Sizes say %d", values, len(p), err, sum)
		}
	}
}

// TestP69OneForm: however a list is made, it is the same bytes; of other values other bytes.
func TestP69OneForm(t *testing.T) {
	m := mix(69)
	for range 300 {
		list := []string{}
		p := of()
		for range 12 {
			p, list = step(t, &m, p, list)
		}
		checkNew(t, p, api.OK, list...)
		if back, err := Walk(p, false); !slices.Equal(back, list) || err != api.OK {
			t.Errorf("Walk(%.60q) = %.60q, %d", p, back, err)
		}
	}
	seen := map[string]int{}
	for i, value := range append(edges(), strings.Repeat("-", 63), "\x01", "\x01\x01", "\x811") {
		p, _ := New(value)
		if k, ok := seen[p]; ok && value != edges()[k] {
			t.Errorf("%.30q and %.30q are the same bytes", value, edges()[k])
		}
		seen[p] = i
	}
}

// step changes a list by one of the calls.
func step(t *testing.T, m *mix, p string, list []string) (string, []string) {
	t.Helper()
	var err api.Errno
	place := m.below(len(list) + 1)
	switch kind := m.below(4); {
	case kind == 0 && place < len(list):
		value := m.value()
		p, err = Set(p, place, value)
		list[place] = value
	case kind == 1:
		n := m.below(3)
		p, err = Delete(p, place, n)
		list = slices.Delete(list, place, min(place+n, len(list)))
	default:
		values := m.values(m.below(4))
		p, err = Insert(p, place, values...)
		list = slices.Insert(list, place, values...)
	}
	if want := of(list...); p != want || err != api.OK {
		t.Fatalf("%.60q, %d; want %.60q", p, err, want)
	}
	return p, list
}

// TestP69Cut: a listpack that is cut anywhere, or made longer, is none.
func TestP69Cut(t *testing.T) {
	m := mix(96)
	for range 100 {
		p := of(m.values(m.below(8))...)
		for i := range len(p) {
			if Valid(p[:i]) != api.ErrListpack || Valid(p[len(p)-i:]) != api.ErrListpack {
				t.Errorf("%.60q, cut at %d, is taken", p, i)
			}
		}
		for _, more := range []string{"\x00", "\x01", "\xff", "\xff\xff", "\x00\x01", of(), p} {
			if Valid(p+more) != api.ErrListpack {
				t.Errorf("%.60q and %.60q is taken", p, more)
			}
		}
		for b := range 256 {
			if Valid(p+string([]byte{byte(b)})) != api.ErrListpack {
				t.Errorf("%.60q and the byte %d is taken", p, b)
			}
		}
	}
}

// TestTotal: every call of every kind of text is what the model says.
func TestTotal(t *testing.T) {
	m := mix(1)
	for range 150 {
		judge(t, of(m.values(m.below(9))...))
	}
	for _, p := range []string{"", of()[1:], lay(1), lay(1, closed(text6Head(1)+"1"))} {
		judge(t, p)
	}
}

// within tells whether a text's bytes stand within another one's.
func within(part, whole string) bool {
	from := uintptr(unsafe.Pointer(unsafe.StringData(whole)))
	at := uintptr(unsafe.Pointer(unsafe.StringData(part)))
	return part != "" && at >= from && at < from+uintptr(len(whole))
}

// TestAlone: arguments stay as they are, and answers are memory of their own.
func TestAlone(t *testing.T) {
	values := []string{"a text", "1", "another one", "-70000", strings.Repeat("x", 500)}
	kept := slices.Clone(values)
	p, _ := New(values...)
	New(values[:2]...)
	Insert(p, 1, values[1:3]...)
	if !slices.Equal(values, kept) {
		t.Errorf("the values are %.60q now", values)
	}
	forth, _ := Walk(p, false)
	again, _ := Walk(p, false)
	for i := range forth {
		at, _ := At(p, i)
		if within(forth[i], p) || within(at, p) || within(forth[i], forth[(i+1)%len(forth)]) {
			t.Errorf("value %d stands in the pack's own memory", i)
		}
		forth[i] = "changed"
	}
	if full := forth[:cap(forth)]; len(full) > len(again) {
		clear(full)
	}
	if third, _ := Walk(p, false); !slices.Equal(again, kept) || !slices.Equal(third, kept) {
		t.Errorf("a list shares memory with another one: %.60q, %.60q", again, third)
	}
	for _, call := range []func() (string, api.Errno){func() (string, api.Errno) { return Insert(p, 2) }, func() (string, api.Errno) { return Delete(p, 1, 0) }, func() (string, api.Errno) { return Set(p, 1, "1") }, func() (string, api.Errno) { return New(kept...) }} {
		if q, err := call(); q != p || err != api.OK || within(q, p) {
			t.Errorf("%.60q, %d is not a listpack of its own", q, err)
		}
	}
}

// TestAloneAtOnce: calls at one time answer as calls one behind the other.
func TestAloneAtOnce(t *testing.T) {
	var all sync.WaitGroup
	for i := range 8 {
		all.Go(func() {
			m := mix(i + 1)
			for range 200 {
				values := m.values(m.below(6))
				if p, err := New(values...); p != of(values...) || err != api.OK {
					t.Errorf("New(%.60q) = %.60q, %d", values, p, err)
				}
				judgeWhole(t, of(values...), model{values, true})
				judgeWhole(t, lay(1, m.bytes(3)+"\xff"), model{})
			}
		})
	}
	all.Wait()
}

func FuzzTotal(f *testing.F) {
	for _, list := range [][]string{{}, {"a", "1"}, {"300", "-5000", "70000", "-9000000", "12345678901"}, {"", "007", strings.Repeat("x", 70)}} {
		p := of(list...)
		f.Add(p, 0, 1, "a")
		f.Add(p[6:len(p)-1], 1, 2, "007")
	}
	f.Fuzz(func(t *testing.T, s string, i, n int, value string) {
		for _, p := range []string{s, lay(i, s), lay(1, s), lay(1, closed(s))} {
			m := modelOf(p)
			judgeWhole(t, p, m)
			judgePlace(t, p, m, i)
			checkText(t, "Delete", i, p)(Delete(p, i, n))(m.deleted(i, n))
			checkText(t, "Insert", i, p)(Insert(p, i, value, s))(m.inserted(i, []string{value, s}))
			want, wantErr := m.found(i, n, value)
			checkFind(t, p, i, n, value, want, wantErr)
		}
	})
}
