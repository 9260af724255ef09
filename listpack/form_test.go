package listpack

import (
	"encoding/binary"
	"math"
	"slices"
	"strconv"
	"strings"
	"testing"

	"cistern/api"
)

// byHead writes head and data of a value, by the chapter's section 'Words'.
func byHead(value string) string {
	n, err := strconv.ParseInt(value, 10, 64)
	if err == nil && strconv.FormatInt(n, 10) == value {
		return numberHead(int(n))
	}
	switch {
	case len(value) <= 63:
		return text6Head(len(value)) + value
	case len(value) <= 4095:
		return text12Head(len(value)) + value
	}
	return text32Head(len(value)) + value
}

func numberHead(n int) string {
	switch {
	case 0 <= n && n <= 127:
		return string([]byte{byte(n)})
	case -4096 <= n && n <= 4095:
		return number13Head(n)
	case -1<<15 <= n && n <= 1<<15-1:
		return wideHead(0xf1, 2, n)
	case -1<<23 <= n && n <= 1<<23-1:
		return wideHead(0xf2, 3, n)
	case -1<<31 <= n && n <= 1<<31-1:
		return wideHead(0xf3, 4, n)
	}
	return wideHead(0xf4, 8, n)
}

func number13Head(n int) string {
	return string(binary.BigEndian.AppendUint16(nil, 0b110<<13|uint16(n)&(1<<13-1)))
}

func wideHead(head byte, width, n int) string {
	b := binary.LittleEndian.AppendUint64([]byte{head}, uint64(n))
	return string(b[:1+width])
}

func text6Head(size int) string { return string([]byte{byte(0x80 + size)}) }

func text12Head(size int) string {
	return string(binary.BigEndian.AppendUint16(nil, 0b1110<<12|uint16(size)))
}

func text32Head(size int) string {
	return string(binary.LittleEndian.AppendUint32([]byte{0xf0}, uint32(size)))
}

// behind is the back length of so many bytes.
func behind(size int) string {
	var b []byte
	for ; size >= 128; size /= 128 {
		b = append(b, byte(size%128+128))
	}
	b = append(b, byte(size))
	slices.Reverse(b)
	return string(b)
}

// closed is head and data with their back length.
func closed(headAndData string) string { return headAndData + behind(len(headAndData)) }

// lay writes a whole of entries, whatever they are, and tells their number as count.
func lay(count int, entries ...string) string {
	body := strings.Join(entries, "")
	b := binary.LittleEndian.AppendUint32(nil, uint32(len(body)+7))
	b = binary.LittleEndian.AppendUint16(b, uint16(count))
	return string(b) + body + "\xff"
}

// of is the listpack of these values.
func of(values ...string) string {
	entries := make([]string, len(values))
	for i, value := range values {
		entries[i] = closed(byHead(value))
	}
	return lay(min(len(values), 65535), entries...)
}

// model is what a text holds.
type model struct {
	values []string
	sound  bool
}

// modelOf reads without any checks what can be read, and holds the text against what these values are written as: P6.2's own words.
func modelOf(p string) (m model) {
	defer func() {
		if recover() != nil {
			m = model{}
		}
	}()
	values := []string{}
	for at := 6; at < len(p)-1; {
		value, size := looseValue(p[at:])
		values = append(values, value)
		at += size + len(behind(size))
	}
	long := slices.ContainsFunc(values, func(value string) bool { return len(value) > 1<<19 })
	if long || len(values) > 1<<20 || len(p) > 1<<30 || p != of(values...) {
		return model{}
	}
	return model{values: values, sound: true}
}

func looseValue(s string) (string, int) {
	b := []byte(s[:min(len(s), 16)])
	switch first := b[0]; {
	case first < 0x80:
		return strconv.Itoa(int(first)), 1
	case first < 0xc0:
		return s[1:][:first-0x80], 1 + int(first-0x80)
	case first < 0xe0:
		n := int(binary.BigEndian.Uint16(b)) - 0xc000
		if n >= 4096 {
			n -= 8192
		}
		return strconv.Itoa(n), 2
	case first < 0xf0:
		n := int(binary.BigEndian.Uint16(b)) - 0xe000
		return s[2:][:n], 2 + n
	case first == 0xf0:
		n := int(binary.LittleEndian.Uint32(b[1:]))
		return s[5:][:n], 5 + n
	case first == 0xf1:
		return strconv.Itoa(int(int16(binary.LittleEndian.Uint16(b[1:])))), 3
	case first == 0xf2:
		return strconv.Itoa(int(int32(uint32(b[1])<<8|uint32(b[2])<<16|uint32(b[3])<<24)) >> 8), 4
	case first == 0xf3:
		return strconv.Itoa(int(int32(binary.LittleEndian.Uint32(b[1:])))), 5
	case first == 0xf4:
		return strconv.Itoa(int(binary.LittleEndian.Uint64(b[1:]))), 9
	}
	panic("no head")
}

// written is what New answers of these values, by P6.1.
func written(values []string) (string, api.Errno) {
	if len(values) > 1<<20 {
		return "", api.ErrLong
	}
	size := 7
	for _, value := range values {
		if len(value) > 1<<19 {
			return "", api.ErrLong
		}
		size += entrySize(value)
	}
	if size > 1<<30 {
		return "", api.ErrLong
	}
	return of(values...), api.OK
}

func entrySize(value string) int {
	if len(value) > 64 { // its bytes need not be laid down to be counted
		head := 2
		if len(value) > 4095 {
			head = 5
		}
		return head + len(value) + len(behind(head+len(value)))
	}
	return len(closed(byHead(value)))
}

func (m model) inserted(i int, values []string) (string, api.Errno) {
	if !m.sound {
		return "", api.ErrListpack
	}
	if i < 0 || i > len(m.values) {
		return "", api.ErrArg
	}
	return written(slices.Insert(slices.Clone(m.values), i, values...))
}

func (m model) changed(i int, value string) (string, api.Errno) {
	if !m.sound {
		return "", api.ErrListpack
	}
	if i < 0 || i >= len(m.values) {
		return "", api.ErrNone
	}
	list := slices.Clone(m.values)
	list[i] = value
	return written(list)
}

func (m model) deleted(i, n int) (string, api.Errno) {
	if !m.sound {
		return "", api.ErrListpack
	}
	if i < 0 || n < 0 {
		return "", api.ErrArg
	}
	var left []string
	for k, value := range m.values {
		if k < i || uint(k) >= uint(i)+uint(n) {
			left = append(left, value)
		}
	}
	return written(left)
}

func (m model) found(from, step int, value string) (int, api.Errno) {
	if !m.sound {
		return 0, api.ErrListpack
	}
	if from < 0 || step < 1 {
		return 0, api.ErrArg
	}
	for k := uint(from); k < uint(len(m.values)); k += uint(step) {
		if m.values[k] == value {
			return int(k), api.OK
		}
	}
	return -1, api.OK
}

// judge holds each call of a text against the model.
func judge(t *testing.T, p string) {
	t.Helper()
	m := modelOf(p)
	judgeWhole(t, p, m)
	count := len(m.values)
	places := []int{math.MinInt, -1, 0, 1, count / 2, count - 1, count, count + 1, math.MaxInt}
	for _, i := range places {
		judgePlace(t, p, m, i)
		for _, n := range places {
			checkText(t, "Delete", i, p)(Delete(p, i, n))(m.deleted(i, n))
		}
	}
	for _, value := range append(slices.Clone(m.values[:min(count, 12)]), "", "a", "1", "-1", "01", "none such") {
		for _, from := range []int{-1, 0, 1, 2, count - 1, count, math.MaxInt} {
			for _, step := range []int{math.MinInt, -1, 0, 1, 2, 3, count, count + 1, math.MaxInt} {
				i, err := Find(p, from, step, value)
				if want, wantErr := m.found(from, step, value); i != want || err != wantErr {
					t.Errorf("Find(%.60q, %d, %d, %.30q) = %d, %d; want %d, %d", p, from, step, value, i, err, want, wantErr)
				}
			}
		}
	}
}

func judgeWhole(t *testing.T, p string, m model) {
	t.Helper()
	want := api.OK
	if !m.sound {
		want = api.ErrListpack
	}
	if err := Valid(p); err != want {
		t.Errorf("Valid(%.60q) = %d, want %d", p, err, want)
	}
	if n, err := Len(p); n != len(m.values) || err != want {
		t.Errorf("Len(%.60q) = %d, %d", p, n, err)
	}
	if list, err := Walk(p, false); !slices.Equal(list, m.values) || err != want {
		t.Errorf("Walk(%.60q, false) = %d values %.60q, %d", p, len(list), list, err)
	}
	turned := slices.Clone(m.values)
	slices.Reverse(turned)
	if list, err := Walk(p, true); !slices.Equal(list, turned) || err != want {
		t.Errorf("Walk(%.60q, true) = %d values %.60q, %d", p, len(list), list, err)
	}
}

func judgePlace(t *testing.T, p string, m model, i int) {
	t.Helper()
	value, err := At(p, i)
	want, wantErr := "", api.ErrNone
	if !m.sound {
		wantErr = api.ErrListpack
	} else if i >= 0 && i < len(m.values) {
		want, wantErr = m.values[i], api.OK
	}
	if value != want || err != wantErr {
		t.Errorf("At(%.60q, %d) = %.30q, %d; want %.30q, %d", p, i, value, err, want, wantErr)
	}
	long := strings.Repeat("x", 1<<19+1)
	for _, values := range [][]string{nil, {""}, {"7"}, {"-5000", "b", "", "12345678901"}, {strings.Repeat("y", 200)}, {"a", long}} {
		checkText(t, "Insert", i, p)(Insert(p, i, values...))(m.inserted(i, values))
	}
	for _, value := range []string{"", "7", "-129", "a", "007", strings.Repeat("z", 130), long} {
		checkText(t, "Set", i, p)(Set(p, i, value))(m.changed(i, value))
	}
}

// checkText holds what a call answers against what is wanted.
func checkText(t *testing.T, call string, i int, p string) func(string, api.Errno) func(string, api.Errno) {
	t.Helper()
	return func(q string, err api.Errno) func(string, api.Errno) {
		return func(want string, wantErr api.Errno) {
			t.Helper()
			if q != want || err != wantErr {
				t.Errorf("%s(%.60q, %d ..) = %.60q (%d bytes), %d; want %.60q (%d bytes), %d", call, p, i, q, len(q), err, want, len(want), wantErr)
			}
		}
	}
}

// mix is a source of numbers that look mixed, and are the same in each run.
type mix uint64

func (m *mix) next() uint64 {
	x := uint64(*m)
	x ^= x << 13
	x ^= x >> 7
	x ^= x << 17
	*m = mix(x)
	return x
}

func (m *mix) below(n int) int { return int(m.next() % uint64(n)) }

// value is a number's text of any size, a short text, or now and then a longer one.
func (m *mix) value() string {
	switch m.below(8) {
	case 0, 1, 2:
		return strconv.Itoa(int(m.next()) >> m.below(64))
	case 3:
		return "0" + strconv.Itoa(m.below(1000))
	case 4:
		return m.bytes(m.below(300))
	}
	return m.bytes(m.below(8))
}

func (m *mix) bytes(size int) string {
	b := make([]byte, size)
	for i := range b {
		b[i] = byte(m.next() >> 24)
	}
	return string(b)
}

func (m *mix) values(count int) []string {
	list := make([]string, count)
	for i := range list {
		list[i] = m.value()
	}
	return list
}
