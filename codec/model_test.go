package codec

import (
	"fmt"
	"slices"
	"strings"
	"testing"

	"cistern/api"
	"cistern/lzf"
	"cistern/value"
)

// This file holds what the chapter says, word by word, byte by byte: what the package answers is held against it.

// mix gives numbers that look mixed, the same ones in every run.
type mix uint64

func (m *mix) next() uint64 {
	*m ^= *m << 13
	*m ^= *m >> 7
	*m ^= *m << 17
	return uint64(*m)
}

func (m *mix) below(n int) int { return int(m.next() >> 11 % uint64(n)) }

// text gives n bytes of the first so many kinds.
func (m *mix) text(n, kinds int) string {
	b := make([]byte, n)
	for i := range b {
		b[i] = byte('a' + m.below(kinds))
	}
	return string(b)
}

// The least thresholds, the greatest ones, and some between.
var (
	least  = api.Thresholds{ListEntries: 1}
	most   = api.Thresholds{ListEntries: 4096, ListBytes: 4096, SetInts: api.MaxCount, SetEntries: 4096, SetBytes: 4096, ZsetEntries: 4096, ZsetBytes: 4096, HashEntries: 4096, HashBytes: 4096}
	middle = api.Thresholds{ListEntries: 4, ListBytes: 64, SetInts: 4, SetEntries: 4, SetBytes: 8, ZsetEntries: 4, ZsetBytes: 8, HashEntries: 4, HashBytes: 8}
)

var several = []api.Thresholds{
	least, most, middle,
	{ListEntries: 2, ListBytes: 8, SetInts: 3, SetEntries: 3, SetBytes: 4, ZsetEntries: 2, ZsetBytes: 4, HashEntries: 2, HashBytes: 4},
	{ListEntries: 3, ListBytes: 2, SetInts: 9, SetEntries: 2, SetBytes: 4, ZsetEntries: 5, ZsetBytes: 2, HashEntries: 5, HashBytes: 2},
	{ListEntries: 1, ListBytes: 9, SetInts: 0, SetEntries: 8, SetBytes: 99, ZsetEntries: 0, ZsetBytes: 9, HashEntries: 0, HashBytes: 9},
	{ListEntries: 9, ListBytes: 0, SetInts: 8, SetEntries: 0, SetBytes: 9, ZsetEntries: 99, ZsetBytes: 99, HashEntries: 99, HashBytes: 99},
}

// row is a line of the chapter's table of types.
type row struct {
	typ, kind int
	encoding  string
	texts     int // of each that is counted; 0: one text, no count
	blob      bool
}

var rows = []row{
	{0, api.KindString, "", 0, false},
	{2, api.KindSet, "hashtable", 1, false},
	{3, api.KindZset, "skiplist", 2, false},
	{4, api.KindHash, "hashtable", 2, false},
	{11, api.KindSet, "intset", 0, true},
	{16, api.KindHash, "listpack", 0, true},
	{17, api.KindZset, "listpack", 0, true},
	{18, api.KindList, "", 1, true},
	{20, api.KindSet, "listpack", 0, true},
}

func rowOf(typ int) (row, bool) {
	i := slices.IndexFunc(rows, func(r row) bool { return r.typ == typ })
	if i < 0 {
		return row{}, false
	}
	return rows[i], true
}

// refLength is the length at the beginning.
func refLength(s string) (n, size int, e api.Errno) {
	if s == "" {
		return 0, 0, api.ErrShort
	}
	lowest := 0
	switch first := int(s[0]); {
	case first < 0x40:
		return first, 1, api.OK
	case first < 0x80:
		n, size, lowest = first-0x40, 2, 64
	case first == 0x80:
		size, lowest = 5, 1<<14
	case first == 0x81:
		size, lowest = 9, 1<<32
	default:
		return 0, 0, api.ErrForm
	}
	if len(s) < size {
		return 0, 0, api.ErrShort
	}
	for _, b := range []byte(s[1:size]) {
		if n >= 1<<55 {
			return 0, 0, api.ErrForm
		}
		n = n*256 + int(b)
	}
	if n < lowest || n > 1<<62 {
		return 0, 0, api.ErrForm
	}
	return n, size, api.OK
}

// refText is a text as it stands at the beginning: how many bytes it has there, and a function that gives the text.
func refText(s string) (int, func() (string, api.Errno), api.Errno) {
	if s == "" {
		return 0, nil, api.ErrShort
	}
	switch s[0] {
	case 0xc0, 0xc1, 0xc2:
		return refNumber(s)
	case 0xc3:
		return refPacked(s)
	}
	n, size, e := refLength(s)
	if e != api.OK {
		return 0, nil, e
	}
	if n > 1<<26 {
		return 0, nil, api.ErrLong
	}
	if len(s)-size < n {
		return 0, nil, api.ErrShort
	}
	return size + n, func() (string, api.Errno) { return s[size : size+n], api.OK }, api.OK
}

func refNumber(s string) (int, func() (string, api.Errno), api.Errno) {
	width := 1 << (s[0] - 0xc0)
	if len(s) < 1+width {
		return 0, nil, api.ErrShort
	}
	n := 0
	for i := range width {
		n += int(s[1+i]) << (8 * i)
	}
	if s[width] >= 0x80 {
		n -= 1 << (8 * width)
	}
	if width > 1 && n >= -1<<(4*width-1) && n < 1<<(4*width-1) {
		return 0, nil, api.ErrForm
	}
	return 1 + width, func() (string, api.Errno) { return fmt.Sprint(n), api.OK }, api.OK
}

func refPacked(s string) (int, func() (string, api.Errno), api.Errno) {
	p, sizeP, e := refLength(s[1:])
	if e != api.OK {
		return 0, nil, e
	}
	n, sizeN, e := refLength(s[1+sizeP:])
	if e != api.OK {
		return 0, nil, e
	}
	if p > 1<<26 || n > 1<<26 {
		return 0, nil, api.ErrLong
	}
	head := 1 + sizeP + sizeN
	if len(s)-head < p {
		return 0, nil, api.ErrShort
	}
	return head + p, func() (string, api.Errno) {
		if n > 1<<19 {
			return "", api.ErrLong
		}
		if n == 0 {
			return "", api.ErrSize
		}
		return lzf.Unpack(s[head:head+p], n)
	}, api.OK
}

// refValue is a value's form, gone through: how many bytes, and the functions that give its texts.
func refValue(typ int, s string) (int, []func() (string, api.Errno), api.Errno) {
	r, ok := rowOf(typ)
	if !ok {
		return 0, nil, api.ErrOpcode
	}
	at, many := 0, 1
	if r.texts > 0 {
		n, size, e := refLength(s)
		if e != api.OK {
			return 0, nil, e
		}
		if n > 1<<20 {
			return 0, nil, api.ErrLong
		}
		at, many = size, n*r.texts
	}
	var texts []func() (string, api.Errno)
	for range many {
		if typ == 18 {
			if at == len(s) {
				return 0, nil, api.ErrShort
			}
			if s[at] != 2 {
				return 0, nil, api.ErrForm
			}
			at++
		}
		size, text, e := refText(s[at:])
		if e != api.OK {
			return 0, nil, e
		}
		at += size
		texts = append(texts, text)
	}
	return at, texts, api.OK
}

// refDecode is Decode, in the chapter's order.
func refDecode(typ int, body string, th api.Thresholds) (*value.Value, api.Errno) {
	if value.Check(th) != api.OK {
		return nil, api.ErrArg
	}
	size, texts, e := refValue(typ, body)
	if e != api.OK {
		return nil, e
	}
	if size < len(body) {
		return nil, api.ErrValue
	}
	var pieces []string
	for _, text := range texts {
		s, e := text()
		if e != api.OK {
			return nil, e
		}
		pieces = append(pieces, s)
	}
	r, _ := rowOf(typ)
	for _, s := range pieces {
		if !r.blob && len(s) > 1<<19 {
			return nil, api.ErrLong
		}
	}
	v := refLoad(r, pieces, th)
	if v == nil || r.kind != api.KindString && v.Len() == 0 {
		return nil, api.ErrValue
	}
	return v, api.OK
}

// refLoad is the value of pieces; nil, if they are none.
func refLoad(r row, pieces []string, th api.Thresholds) *value.Value {
	switch {
	case r.kind == api.KindString:
		v, _ := value.New(r.kind, th)
		v.SetText(pieces[0])
		return v
	case r.kind == api.KindList && len(pieces) == 1:
		r.encoding = "listpack"
	case r.kind == api.KindList:
		r.encoding = "quicklist"
	}
	v, e := value.Load(r.kind, r.encoding, pieces, th)
	if e == api.OK || r.kind != api.KindList {
		return v
	}
	wide := th
	wide.ListEntries, wide.ListBytes = 4096, 4096
	all, e := value.Load(r.kind, r.encoding, pieces, wide)
	if e != api.OK {
		return nil
	}
	v, _ = value.New(r.kind, th)
	for i := range all.Len() {
		s, _ := all.At(i)
		v.Push(false, s)
	}
	return v
}

// same tells whether two values hold the same in the same way.
func same(v, w *value.Value) bool {
	return v.Equal(w) && w.Equal(v) && v.Encoding() == w.Encoding() && slices.Equal(v.Raw(), w.Raw())
}

// length is a length's bytes.
func length(n int) string {
	switch {
	case n < 64:
		return string([]byte{byte(n)})
	case n < 1<<14:
		return string([]byte{byte(0x40 + n>>8), byte(n)})
	case n < 1<<32:
		return "\x80" + high(n, 4)
	}
	return "\x81" + high(n, 8)
}

// high is a number of so many bytes, the highest first.
func high(n, size int) string {
	b := make([]byte, size)
	for i := range b {
		b[i] = byte(n >> (8 * (size - 1 - i)))
	}
	return string(b)
}

// plain is a text's plain form, whatever text it is.
func plain(s string) string { return length(len(s)) + s }

// packed is a packed text that says to have so many bytes.
func packed(p string, n int) string { return "\xc3" + length(len(p)) + length(n) + p }

// runs is a text packed into runs: longer than the text, but sound.
func runs(s string) string {
	var b strings.Builder
	for s != "" {
		n := min(len(s), 32)
		b.WriteByte(byte(n - 1))
		b.WriteString(s[:n])
		s = s[n:]
	}
	return b.String()
}

func short(s string) string {
	if len(s) > 60 {
		return fmt.Sprintf("%q.. (%d bytes)", s[:40], len(s))
	}
	return fmt.Sprintf("%q", s)
}

// checkText holds Text against the chapter.
func checkText(t *testing.T, s string) {
	t.Helper()
	got, size, e := Text(s)
	wantSize, text, want := refText(s)
	wantText := ""
	if want == api.OK {
		wantText, want = text()
	}
	if want != api.OK {
		wantText, wantSize = "", 0
	}
	if got != wantText || size != wantSize || e != want {
		t.Fatalf("Text(%s) = %s, %d, %d; want %s, %d, %d", short(s), short(got), size, e, short(wantText), wantSize, want)
	}
}

// checkValue holds Size, Decode and Checked against the chapter, and what Decode answers against CO6.
func checkValue(t *testing.T, typ int, s string, th api.Thresholds) {
	t.Helper()
	size, e := Size(typ, s)
	if wantSize, _, want := refValue(typ, s); size != wantSize || e != want {
		t.Fatalf("Size(%d, %s) = %d, %d; want %d, %d", typ, short(s), size, e, wantSize, want)
	}
	v, e := Decode(typ, s, th)
	want, wantErr := refDecode(typ, s, th)
	if e != wantErr || (v == nil) != (want == nil) || v != nil && !same(v, want) {
		t.Fatalf("Decode(%d, %s, %v) = %v, %d; want %v, %d", typ, short(s), th, v, e, want, wantErr)
	}
	if v != nil {
		checkSound(t, v, typ, th)
	}
	_, wantErr = refDecode(typ, s, most)
	if e := Checked(typ, s); e != wantErr {
		t.Fatalf("Checked(%d, %s) = %d; want %d", typ, short(s), e, wantErr)
	}
}

// checkSound: a value that was decoded is within the limits, and its Raw may be loaded again.
func checkSound(t *testing.T, v *value.Value, typ int, th api.Thresholds) {
	t.Helper()
	if v.Kind() != Kind(typ) || v.Kind() != api.KindString && (v.Len() < 1 || v.Len() > api.MaxCount) {
		t.Fatalf("type %d: a value of kind %d, of %d", typ, v.Kind(), v.Len())
	}
	w, e := value.Load(v.Kind(), v.Encoding(), v.Raw(), th)
	if e != api.OK || !same(v, w) {
		t.Fatalf("type %d: what was decoded is not loaded again: %d", typ, e)
	}
}
