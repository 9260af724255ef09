package intset

import (
	"encoding/binary"
	"math"
	"slices"
	"testing"

	"cistern/api"
)

// lay writes a head and numbers by the chapter's section 'The form', whatever they are.
func lay(width, count int, numbers ...int) string {
	b := binary.LittleEndian.AppendUint32(nil, uint32(width))
	b = binary.LittleEndian.AppendUint32(b, uint32(count))
	for _, n := range numbers {
		switch width {
		case 2:
			b = binary.LittleEndian.AppendUint16(b, uint16(n))
		case 4:
			b = binary.LittleEndian.AppendUint32(b, uint32(n))
		default:
			b = binary.LittleEndian.AppendUint64(b, uint64(n))
		}
	}
	return string(b)
}

// of is the intset of these numbers, which rise.
func of(width int, numbers ...int) string {
	return lay(width, len(numbers), numbers...)
}

// model is what a text holds, read by the chapter's section 'The form'.
type model struct {
	width   int
	numbers []int
	sound   bool
}

func modelOf(p string) model {
	if len(p) < 8 {
		return model{}
	}
	b := []byte(p)
	width, count := binary.LittleEndian.Uint32(b), binary.LittleEndian.Uint32(b[4:])
	if width != 2 && width != 4 && width != 8 || count > 1<<20 || uint64(len(b)) != 8+uint64(width)*uint64(count) {
		return model{}
	}
	m := model{width: int(width), sound: true}
	for b = b[8:]; len(b) > 0; b = b[width:] {
		switch width {
		case 2:
			m.numbers = append(m.numbers, int(int16(binary.LittleEndian.Uint16(b))))
		case 4:
			m.numbers = append(m.numbers, int(int32(binary.LittleEndian.Uint32(b))))
		case 8:
			m.numbers = append(m.numbers, int(binary.LittleEndian.Uint64(b)))
		}
	}
	for i := 1; i < len(m.numbers); i++ {
		if m.numbers[i-1] >= m.numbers[i] {
			return model{}
		}
	}
	return m
}

func (m model) has(n int) bool { return slices.Contains(m.numbers, n) }

// needs is the width that a number needs.
func needs(n int) int {
	if -1<<15 <= n && n <= 1<<15-1 {
		return 2
	}
	if -1<<31 <= n && n <= 1<<31-1 {
		return 4
	}
	return 8
}

func (m model) added(n int) string {
	list := append(slices.Clone(m.numbers), n)
	slices.Sort(list)
	return of(max(m.width, needs(n)), list...)
}

func (m model) dropped(n int) string {
	return of(m.width, slices.DeleteFunc(slices.Clone(m.numbers), func(k int) bool { return k == n })...)
}

// between is what Range answers.
func (m model) between(from, to int) (int, int) {
	if !m.sound || from > to {
		return 0, 0
	}
	below, in := 0, 0
	for _, n := range m.numbers {
		if n < from {
			below++
		} else if n <= to {
			in++
		}
	}
	return below, in
}

// ends are the numbers at which a width ends, and those beside them.
func ends() []int {
	list := []int{math.MinInt, math.MinInt + 1, math.MaxInt - 1, math.MaxInt}
	for _, end := range []int{-1 << 31, -1 << 15, 0, 1 << 15, 1 << 31, -1 << 32, 1 << 32, -1 << 16, 1 << 16, 1 << 8, -1 << 8, 1 << 7, -1 << 7, -1 << 62, 1 << 62} {
		list = append(list, end-1, end, end+1)
	}
	slices.Sort(list)
	return slices.Compact(list)
}

// mix is a source of numbers that look mixed, and are the same in each run.
type mix uint64

func (m *mix) next() uint64 {
	x := uint64(*m)
	x ^= x << 13
	x ^= x >> 7
	x ^= x << 17
	*m = mix(x)
	return x
}

func (m *mix) below(n int) int { return int(m.next() % uint64(n)) }

// number is one of any size, small ones as often as great ones.
func (m *mix) number() int { return int(m.next()) >> m.below(64) }

// numbers are so many, rising, none twice, each of at most the width.
func (m *mix) numbers(count, width int) []int {
	var list []int
	for len(list) < count {
		list = append(list, int(m.next())>>(64-8*width)>>m.below(8*width-6))
		slices.Sort(list)
		list = slices.Compact(list)
	}
	return list
}

// judge holds each call of a text against the model.
func judge(t *testing.T, p string, asked []int) {
	t.Helper()
	m := modelOf(p)
	judgeWhole(t, p, m)
	for _, i := range append([]int{-1, 0, 1, len(m.numbers) / 2, len(m.numbers) - 1, len(m.numbers), len(m.numbers) + 1}, ends()...) {
		n, ok := At(p, i)
		if want := m.sound && i >= 0 && i < len(m.numbers); ok != want || ok && n != m.numbers[i] || !ok && n != 0 {
			t.Errorf("At(%.60q, %d) = %d, %v", p, i, n, ok)
		}
	}
	for _, n := range asked {
		judgeNumber(t, p, m, n)
		for _, to := range asked {
			first, count := Range(p, n, to)
			if wantFirst, wantCount := m.between(n, to); first != wantFirst || count != wantCount {
				t.Errorf("Range(%.60q, %d, %d) = %d, %d; want %d, %d", p, n, to, first, count, wantFirst, wantCount)
			}
		}
	}
}

func judgeWhole(t *testing.T, p string, m model) {
	t.Helper()
	want := api.OK
	if !m.sound {
		want = api.ErrIntset
	}
	if err := Valid(p); err != want {
		t.Errorf("Valid(%.60q) = %d", p, err)
	}
	if n, err := Len(p); n != len(m.numbers) || err != want {
		t.Errorf("Len(%.60q) = %d, %d", p, n, err)
	}
	if list, err := All(p); !slices.Equal(list, m.numbers) || err != want {
		t.Errorf("All(%.60q) = %d numbers, %d", p, len(list), err)
	}
}

func judgeNumber(t *testing.T, p string, m model, n int) {
	t.Helper()
	if Has(p, n) != m.has(n) {
		t.Errorf("Has(%.60q, %d) = %v", p, n, !m.has(n))
	}
	var added, dropped string
	err, isNew, was := api.ErrIntset, false, false
	if m.sound {
		err, added, dropped, isNew, was = api.OK, p, p, !m.has(n), m.has(n)
	}
	if isNew {
		added = m.added(n)
	}
	if was {
		dropped = m.dropped(n)
	}
	if q, ok, e := Add(p, n); q != added || ok != isNew || e != err {
		t.Errorf("Add(%.60q, %d) = %.60q, %v, %d; want %.60q", p, n, q, ok, e, added)
	}
	if q, ok, e := Drop(p, n); q != dropped || ok != was || e != err {
		t.Errorf("Drop(%.60q, %d) = %.60q, %v, %d; want %.60q", p, n, q, ok, e, dropped)
	}
}
