package intset

import (
	"math"
	"slices"
	"strings"
	"sync"
	"testing"

	"cistern/api"
)

func checkAdd(t *testing.T, p string, n int, want string, wantNew bool, wantErr api.Errno) {
	t.Helper()
	if q, isNew, err := Add(p, n); q != want || isNew != wantNew || err != wantErr {
		t.Errorf("Add(%.60q, %d) = %.60q, %v, %d; want %.60q, %v, %d", p, n, q, isNew, err, want, wantNew, wantErr)
	}
}

func checkDrop(t *testing.T, p string, n int, want string, wantWas bool, wantErr api.Errno) {
	t.Helper()
	if q, was, err := Drop(p, n); q != want || was != wantWas || err != wantErr {
		t.Errorf("Drop(%.60q, %d) = %.60q, %v, %d; want %.60q, %v, %d", p, n, q, was, err, want, wantWas, wantErr)
	}
}

func checkRange(t *testing.T, p string, from, to, wantFirst, wantCount int) {
	t.Helper()
	if first, count := Range(p, from, to); first != wantFirst || count != wantCount {
		t.Errorf("Range(%.60q, %d, %d) = %d, %d; want %d, %d", p, from, to, first, count, wantFirst, wantCount)
	}
}

func TestExamples(t *testing.T) {
	if New() != "\x02\x00\x00\x00\x00\x00\x00\x00" {
		t.Errorf("New() = %q", New())
	}
	five := "\x02\x00\x00\x00\x01\x00\x00\x00\x05\x00"
	both := "\x02\x00\x00\x00\x02\x00\x00\x00\xff\xff\x05\x00"
	wide := "\x04\x00\x00\x00\x03\x00\x00\x00\xff\xff\xff\xff\x05\x00\x00\x00\x40\x9c\x00\x00"
	checkAdd(t, New(), 5, five, true, api.OK)
	checkAdd(t, five, -1, both, true, api.OK)
	checkAdd(t, both, 40000, wide, true, api.OK)
	checkDrop(t, wide, 40000, "\x04\x00\x00\x00\x02\x00\x00\x00\xff\xff\xff\xff\x05\x00\x00\x00", true, api.OK)
	for _, p := range []string{"\x02\x00\x00\x00\x01\x00\x00\x00\x05", "\x02\x00\x00\x00\x02\x00\x00\x00\x05\x00\xff\xff", "\x03\x00\x00\x00\x00\x00\x00\x00"} {
		if err := Valid(p); err != api.ErrIntset {
			t.Errorf("Valid(%q) = %d", p, err)
		}
	}
}

// TestI1Empty: the empty intset of each width.
func TestI1Empty(t *testing.T) {
	if New() != of(2) {
		t.Errorf("New() = %q", New())
	}
	for _, width := range []int{2, 4, 8} {
		judge(t, of(width), ends())
	}
}

// TestI1Whole: Valid, Len and All of ordinary sets, and of the ends of each width.
func TestI1Whole(t *testing.T) {
	for _, list := range [][]int{{0}, {-1}, {7}, {-1, 5}, {1, 2, 3}, {-3, -2, -1, 0}, {-1 << 15, 1<<15 - 1}, {-256, -255, -1, 0, 1, 255, 256}} {
		for _, width := range []int{2, 4, 8} {
			p := of(width, list...)
			if n, err := Len(p); n != len(list) || err != api.OK || Valid(p) != api.OK {
				t.Errorf("Len(%q) = %d, %d", p, n, err)
			}
			if got, err := All(p); !slices.Equal(got, list) || err != api.OK {
				t.Errorf("All(%q) = %v, %d", p, got, err)
			}
		}
	}
	judge(t, of(2, -1<<15, -1, 0, 1<<15-1), ends())
	judge(t, of(4, -1<<31, -1<<15-1, 0, 1<<15, 1<<31-1), ends())
	judge(t, of(8, ends()...), ends())
}

// wrong are texts that are no intsets.
func wrong() []string {
	list := []string{"", lay(0, 0), lay(1, 0), lay(3, 0), lay(5, 0), lay(6, 0), lay(7, 0), lay(9, 0), lay(10, 0), lay(16, 0), lay(1<<31, 0), lay(-2, 0)}
	for n := range 8 {
		list = append(list, of(2)[:n], of(8)[:n], strings.Repeat("\x00", n), strings.Repeat("\xff", n))
	}
	for _, width := range []int{2, 4, 8} {
		for shift := 8; shift < 32; shift++ {
			list = append(list, lay(width|1<<shift, 0))
		}
		list = append(list, lay(width<<8, 0), lay(width<<16, 0), lay(width<<24, 0), lay(0, width))
		list = append(list, wrongCounts(width)...)
		list = append(list, wrongOrders(width)...)
	}
	for _, width := range []int{0, 1, 3, 5, 16} {
		list = append(list, lay(width, 2)+strings.Repeat("\x01", width)+strings.Repeat("\x02", width), lay(width, 1)+strings.Repeat("\x01", width))
	}
	return append(list, strings.Repeat("\x00", 8), strings.Repeat("\xff", 8), strings.Repeat("\x00", 100), strings.Repeat("\xff", 100), "listpack", "a text that is none")
}

func wrongCounts(width int) []string {
	three := of(width, 1, 2, 3)
	return []string{
		lay(width, 2, 1, 2, 3), lay(width, 4, 1, 2, 3), lay(width, 0, 1, 2, 3), lay(width, 0, 1), lay(width, 1),
		lay(width, 3|1<<31, 1, 2, 3), lay(width, 1<<31), lay(width, -1), lay(width, -3, 1, 2, 3), lay(width, math.MaxInt32, 1), lay(width, 3|1<<8, 1, 2, 3), lay(width, 3|1<<16, 1, 2, 3), lay(width, 3|1<<24, 1, 2, 3),
		lay(width, 1<<29, 1), lay(width, 1<<30), lay(width, 3<<30),
		three[:len(three)-1], three + "\x00", three + "\x04", three[:len(three)-width], three + strings.Repeat("\x04", width), three[:9], three[:8], of(width) + "\x00",
	}
}

func wrongOrders(width int) []string {
	high := 1 << (8*width - 1)
	return []string{
		of(width, 2, 1), of(width, 1, 1), of(width, 0, 0), of(width, -1, -1), of(width, -1, -2), of(width, 0, -1), of(width, 1, -1),
		of(width, 1, 2, 2), of(width, 1, 1, 2), of(width, 1, 3, 2), of(width, 2, 1, 3), of(width, 3, 2, 1), of(width, 1, 2, 3, 4, 3), of(width, 5, 1, 2, 3),
		of(width, 0, 1, high), of(width, high-1, high), of(width, 5, -5), of(width, 1, -high), of(width, high-1, -high), of(width, -1, 0, 1, -1),
		of(width, -1, -2, -3), of(width, 256, 1), of(width, 0x0201, 0x0102), of(width, -1, -256),
	}
}

func TestI1Wrong(t *testing.T) {
	for _, p := range wrong() {
		if modelOf(p).sound {
			t.Errorf("the test is at fault: %q", p)
		}
		judge(t, p, []int{math.MinInt, -1, 0, 1, 2, 3, math.MaxInt})
	}
}

// TestI1Byte: an intset of which one byte is another one, or is missing, is what the form says it is then.
func TestI1Byte(t *testing.T) {
	for _, p := range []string{of(2), of(2, -2, 5, 300), of(4, -70000, 1, 2), of(8, 1<<40, 1<<40+1)} {
		for i := range len(p) {
			for b := range 256 {
				judge(t, p[:i]+string([]byte{byte(b)})+p[i+1:], []int{-1, 1})
			}
			judge(t, p[:i], []int{1})
			judge(t, p[:i]+p[i+1:], []int{1})
		}
	}
}

// TestI1Heights: numbers rise by all of their bytes and their sign.
func TestI1Heights(t *testing.T) {
	for _, width := range []int{2, 4, 8} {
		for shift := range 8*width - 1 {
			judge(t, of(width, 0, 1<<shift), []int{0, 1 << shift})
			judge(t, of(width, 1<<shift, 0), []int{0})
			judge(t, of(width, -1<<shift, 0), []int{0, -1 << shift})
			judge(t, of(width, 0, -1<<shift), []int{0})
			judge(t, of(width, -1<<shift, 1<<shift), []int{0})
			judge(t, of(width, 1<<shift-1, 1<<shift), []int{1<<shift - 1, 1 << shift})
			judge(t, of(width, 1<<shift, 1<<shift-1), []int{0})
		}
	}
}

func TestI2At(t *testing.T) {
	for _, width := range []int{2, 4, 8} {
		p := of(width, -7, 0, 9)
		for _, c := range []struct {
			place, want int
			ok          bool
		}{{-1, 0, false}, {0, -7, true}, {1, 0, true}, {2, 9, true}, {3, 0, false}, {4, 0, false}, {math.MinInt, 0, false}, {math.MaxInt, 0, false}, {1 << 61, 0, false}, {1<<62 + 1, 0, false}} {
			if n, ok := At(p, c.place); n != c.want || ok != c.ok {
				t.Errorf("At(%q, %d) = %d, %v", p, c.place, n, ok)
			}
		}
		if n, ok := At(of(width), 0); n != 0 || ok {
			t.Errorf("At of an empty one: %d, %v", n, ok)
		}
	}
	for _, p := range wrong() {
		for i := range 3 {
			if n, ok := At(p, i); n != 0 || ok {
				t.Errorf("At(%q, %d) = %d, %v", p, i, n, ok)
			}
		}
	}
}

func TestI2Has(t *testing.T) {
	list := []int{-1 << 15, -7, 0, 9, 12, 1<<15 - 1}
	for _, width := range []int{2, 4, 8} {
		p := of(width, list...)
		for _, n := range append(ends(), -8, -7, -6, 8, 9, 10, 11, 12, 13, -7+1<<16, 9+1<<16, 9-1<<16, 9+1<<32, -7-1<<32, -7+1<<32) {
			if Has(p, n) != slices.Contains(list, n) {
				t.Errorf("Has(%q, %d) = %v", p, n, Has(p, n))
			}
		}
	}
	for _, p := range wrong() {
		for _, n := range []int{-1, 0, 1, 2, 3} {
			if Has(p, n) {
				t.Errorf("Has(%q, %d)", p, n)
			}
		}
	}
}

// TestI3Add: a number below all, above all, between two, and one that is in it.
func TestI3Add(t *testing.T) {
	for _, width := range []int{2, 4, 8} {
		p := of(width, -5, 5)
		checkAdd(t, p, -6, of(width, -6, -5, 5), true, api.OK)
		checkAdd(t, p, 6, of(width, -5, 5, 6), true, api.OK)
		checkAdd(t, p, 0, of(width, -5, 0, 5), true, api.OK)
		checkAdd(t, p, -5, p, false, api.OK)
		checkAdd(t, p, 5, p, false, api.OK)
		checkAdd(t, of(width), 0, of(width, 0), true, api.OK)
	}
	for _, p := range wrong() {
		for _, n := range []int{-1, 0, 1, 2, 1 << 20, math.MaxInt} {
			checkAdd(t, p, n, "", false, api.ErrIntset)
		}
	}
}

// TestI3Width: the width is the greater one of what was and what the number needs.
func TestI3Width(t *testing.T) {
	for _, width := range []int{2, 4, 8} {
		for _, n := range ends() {
			wide := max(width, needs(n))
			checkAdd(t, of(width), n, of(wide, n), true, api.OK)
			list := []int{-9, 4, n}
			slices.Sort(list)
			checkAdd(t, of(width, -9, 4), n, of(wide, list...), true, api.OK)
		}
	}
	checkAdd(t, of(2, -1<<15, 1<<15-1), 1<<15, of(4, -1<<15, 1<<15-1, 1<<15), true, api.OK)
	checkAdd(t, of(2, -1<<15, 1<<15-1), -1<<15-1, of(4, -1<<15-1, -1<<15, 1<<15-1), true, api.OK)
	checkAdd(t, of(2, -1<<15, 1<<15-1), 1<<31, of(8, -1<<15, 1<<15-1, 1<<31), true, api.OK)
	checkAdd(t, of(2, -1<<15, 1<<15-1), -1<<31-1, of(8, -1<<31-1, -1<<15, 1<<15-1), true, api.OK)
	checkAdd(t, of(4, -1<<31, 1<<31-1), 1<<31, of(8, -1<<31, 1<<31-1, 1<<31), true, api.OK)
	checkAdd(t, of(4, -1<<31, 1<<31-1), -1<<31-1, of(8, -1<<31-1, -1<<31, 1<<31-1), true, api.OK)
	checkAdd(t, of(8, math.MinInt), math.MaxInt, of(8, math.MinInt, math.MaxInt), true, api.OK)
	checkAdd(t, of(8, math.MaxInt), math.MinInt, of(8, math.MinInt, math.MaxInt), true, api.OK)
	checkAdd(t, of(8, 1), 2, of(8, 1, 2), true, api.OK)
	checkAdd(t, of(4, 1), 2, of(4, 1, 2), true, api.OK)
}

func TestI3Drop(t *testing.T) {
	for _, width := range []int{2, 4, 8} {
		p := of(width, -5, 0, 5)
		checkDrop(t, p, -5, of(width, 0, 5), true, api.OK)
		checkDrop(t, p, 0, of(width, -5, 5), true, api.OK)
		checkDrop(t, p, 5, of(width, -5, 0), true, api.OK)
		for _, n := range []int{-6, -4, 1, 6, 1 << 16, 5 + 1<<16, 5 + 1<<32, math.MinInt, math.MaxInt} {
			checkDrop(t, p, n, p, false, api.OK)
		}
		checkDrop(t, of(width, 3), 3, of(width), true, api.OK)
		checkDrop(t, of(width), 3, of(width), false, api.OK)
	}
	checkDrop(t, of(8, 1, 1<<40), 1<<40, of(8, 1), true, api.OK)
	checkDrop(t, of(8, math.MinInt, 0, math.MaxInt), math.MinInt, of(8, 0, math.MaxInt), true, api.OK)
	for _, p := range wrong() {
		for _, n := range []int{-1, 0, 1, 2, 1 << 20, math.MaxInt} {
			checkDrop(t, p, n, "", false, api.ErrIntset)
		}
	}
}

// run is so many numbers from one on, each by one more.
func run(from, count int) []int {
	list := make([]int, count)
	for i := range list {
		list[i] = from + i
	}
	return list
}

// TestI3Full: MaxCount numbers are an intset, one more is none.
func TestI3Full(t *testing.T) {
	for _, width := range []int{4, 8} {
		full := of(width, run(0, api.MaxCount)...)
		if n, err := Len(full); n != api.MaxCount || err != api.OK {
			t.Errorf("Len of MaxCount numbers: %d, %d", n, err)
		}
		for _, n := range []int{0, 1, api.MaxCount / 2, api.MaxCount - 1} {
			checkAdd(t, full, n, full, false, api.OK)
		}
		for _, n := range []int{-1, api.MaxCount, 1 << 40, math.MinInt, math.MaxInt} {
			checkAdd(t, full, n, "", false, api.ErrFull)
			checkDrop(t, full, n, full, false, api.OK)
		}
		less := of(width, run(0, api.MaxCount-1)...)
		checkDrop(t, full, api.MaxCount-1, less, true, api.OK)
		checkDrop(t, full, 0, of(width, run(1, api.MaxCount-1)...), true, api.OK)
		checkAdd(t, less, api.MaxCount-1, full, true, api.OK)
		if n, ok := At(full, api.MaxCount-1); n != api.MaxCount-1 || !ok {
			t.Errorf("At the last place of MaxCount: %d, %v", n, ok)
		}
		checkRange(t, full, 5, math.MaxInt, 5, api.MaxCount-5)
	}
	checkAdd(t, of(4, run(0, api.MaxCount-1)...), 1<<31, of(8, append(run(0, api.MaxCount-1), 1<<31)...), true, api.OK)
}

func TestI3Overfull(t *testing.T) {
	for _, width := range []int{4, 8} {
		over := of(width, run(0, api.MaxCount+1)...)
		if _, err := Len(over); err != api.ErrIntset || Valid(over) != api.ErrIntset || Has(over, 0) {
			t.Errorf("Len of more than MaxCount numbers: %d", err)
		}
		if list, err := All(over); len(list) != 0 || err != api.ErrIntset {
			t.Errorf("All of more than MaxCount numbers: %d, %d", len(list), err)
		}
		if n, ok := At(over, 1); n != 0 || ok {
			t.Errorf("At of more than MaxCount numbers: %d, %v", n, ok)
		}
		checkAdd(t, over, 0, "", false, api.ErrIntset)
		checkAdd(t, over, -1, "", false, api.ErrIntset)
		checkDrop(t, over, 0, "", false, api.ErrIntset)
		checkDrop(t, over, -1, "", false, api.ErrIntset)
		checkRange(t, over, 5, 7, 0, 0)
	}
}

// TestI3All16: all numbers that the width 2 holds.
func TestI3All16(t *testing.T) {
	p := of(2, run(-1<<15, 1<<16)...)
	if list, err := All(p); !slices.Equal(list, run(-1<<15, 1<<16)) || err != api.OK {
		t.Errorf("All: %d numbers, %d", len(list), err)
	}
	checkAdd(t, p, 1<<15-1, p, false, api.OK)
	checkAdd(t, p, 1<<15, of(4, run(-1<<15, 1<<16+1)...), true, api.OK)
	checkRange(t, p, -1<<15, 1<<15-1, 0, 1<<16)
}

func TestI4Range(t *testing.T) {
	for _, width := range []int{2, 4, 8} {
		p := of(width, -10, 0, 10, 20)
		for _, c := range [][4]int{
			{0, 0, 1, 1}, {-10, -10, 0, 1}, {20, 20, 3, 1}, {5, 5, 2, 0}, {-11, -11, 0, 0},
			{1, 0, 0, 0}, {20, -10, 0, 0}, {11, 10, 0, 0}, {math.MaxInt, math.MinInt, 0, 0},
			{math.MinInt, math.MaxInt, 0, 4}, {-100, 100, 0, 4}, {-10, 20, 0, 4}, {-11, 21, 0, 4}, {-9, 19, 1, 2},
			{1, 9, 2, 0}, {11, 19, 3, 0}, {-9, -1, 1, 0}, {-100, -11, 0, 0}, {math.MinInt, math.MinInt, 0, 0},
			{0, 10, 1, 2}, {0, 9, 1, 1}, {1, 10, 2, 1}, {-10, 0, 0, 2}, {10, math.MaxInt, 2, 2}, {math.MinInt, 0, 0, 2},
			{21, 30, 4, 0}, {21, math.MaxInt, 4, 0}, {math.MaxInt, math.MaxInt, 4, 0},
		} {
			checkRange(t, p, c[0], c[1], c[2], c[3])
		}
		checkRange(t, of(width), math.MinInt, math.MaxInt, 0, 0)
		checkRange(t, of(width), 3, 3, 0, 0)
		checkRange(t, of(width, 3), 3, 3, 0, 1)
		checkRange(t, of(width, 3), 4, 4, 1, 0)
		checkRange(t, of(width, 3), 2, 2, 0, 0)
	}
	ends8 := of(8, math.MinInt, 0, math.MaxInt)
	checkRange(t, ends8, math.MinInt, math.MaxInt, 0, 3)
	checkRange(t, ends8, math.MaxInt, math.MaxInt, 2, 1)
	checkRange(t, ends8, math.MinInt, math.MinInt, 0, 1)
	checkRange(t, ends8, math.MinInt+1, math.MaxInt-1, 1, 1)
	for _, p := range wrong() {
		checkRange(t, p, math.MinInt, math.MaxInt, 0, 0)
		checkRange(t, p, 2, 3, 0, 0)
	}
}

// TestI5Sound: sets of mixed numbers, each call held against the model.
func TestI5Sound(t *testing.T) {
	m := mix(5)
	for range 300 {
		width := []int{2, 4, 8}[m.below(3)]
		list := m.numbers(m.below(20), width)
		asked := []int{m.number(), m.number(), m.number()}
		if len(list) > 0 {
			n := list[m.below(len(list))]
			asked = append(asked, n, n-1, n+1, list[0], list[len(list)-1])
		}
		judge(t, of(width, list...), asked)
	}
}

// TestI5Calls: numbers added and dropped again and again: those are in it whose Add came behind their Drop, and the width never shrinks.
func TestI5Calls(t *testing.T) {
	m := mix(55)
	for range 60 {
		p, width, there := New(), 2, map[int]bool{}
		pool := make([]int, 1+m.below(30))
		for i := range pool {
			pool[i] = m.number()
		}
		for range 100 {
			n := pool[m.below(len(pool))]
			var changed bool
			var err api.Errno
			if m.below(2) == 0 {
				p, changed, err = Add(p, n)
				width = max(width, needs(n))
				if changed == there[n] {
					t.Fatalf("Add of %d: %v", n, changed)
				}
				there[n] = true
			} else {
				p, changed, err = Drop(p, n)
				if changed != there[n] {
					t.Fatalf("Drop of %d: %v", n, changed)
				}
				delete(there, n)
			}
			var want []int
			for k := range there {
				want = append(want, k)
			}
			slices.Sort(want)
			if p != of(width, want...) || err != api.OK || Valid(p) != api.OK {
				t.Fatalf("behind %d: %q, %d; want %v", n, p, err, want)
			}
		}
	}
}

// TestI5Orders: the same numbers in unlike orders are the same intset.
func TestI5Orders(t *testing.T) {
	m := mix(555)
	for range 100 {
		list := append(m.numbers(1+m.below(8), 8), m.numbers(1+m.below(8), 2)...)
		slices.Sort(list)
		list = slices.Compact(list)
		width := 2
		for _, n := range list {
			width = max(width, needs(n))
		}
		want := of(width, list...)
		for range 5 {
			for i := range list {
				j := m.below(i + 1)
				list[i], list[j] = list[j], list[i]
			}
			p := New()
			for _, n := range list {
				p, _, _ = Add(p, n)
			}
			if p != want {
				t.Fatalf("%v: %q", list, p)
			}
			for _, n := range list {
				p, _, _ = Drop(p, n)
			}
			if p != of(width) {
				t.Fatalf("%v dropped: %q", list, p)
			}
		}
	}
}

// TestAlone: a list that is answered is memory of its own.
func TestAlone(t *testing.T) {
	p, want := of(4, -3, 1, 70000), []int{-3, 1, 70000}
	first, _ := All(p)
	second, _ := All(p)
	_ = append(first, 99)
	clear(first)
	third, _ := All(p)
	if !slices.Equal(second, want) || !slices.Equal(third, want) {
		t.Errorf("All: %v, %v", second, third)
	}
}

// TestAloneBeside: what a call answers hangs on its arguments alone, whatever other calls go on beside it or went ahead.
func TestAloneBeside(t *testing.T) {
	texts := append(wrong(), of(2, -1, 1), of(4, -1, 1, 70000), of(8, 1, 2, 3, 1<<40))
	var workers sync.WaitGroup
	for w := range 4 {
		workers.Go(func() {
			for i := range texts {
				judge(t, texts[(i*7+w*31)%len(texts)], []int{-1, 1, 70000, 1 << 40})
			}
		})
	}
	workers.Wait()
}

// TestTotal: long texts, and such as nothing is made for, end without a panic.
func TestTotal(t *testing.T) {
	for _, p := range []string{strings.Repeat("\x00", 1<<20), strings.Repeat("\xff", 1<<20), strings.Repeat("\x02\x00\x00\x00", 1<<18), strings.Repeat("\x08", 1<<20), lay(2, 1<<20) + strings.Repeat("\x01", 1<<21), lay(8, math.MaxInt32) + strings.Repeat("\x01", 1<<16)} {
		judge(t, p, []int{math.MinInt, -1, 0, 1, math.MaxInt})
	}
}

func FuzzTotal(f *testing.F) {
	f.Add(of(2, -1, 5), 3, 7)
	f.Add(of(4, -70000, 5), math.MaxInt, 0)
	f.Add(of(8, math.MinInt, math.MaxInt), math.MinInt, 0)
	f.Add("", 0, 0)
	f.Fuzz(func(t *testing.T, p string, n, k int) {
		judge(t, p, []int{n, k})
		judge(t, lay(n&15, k&7)+p, []int{n, k})
	})
}
