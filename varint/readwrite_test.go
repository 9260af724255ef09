package varint

import (
	"math"
	"strings"
	"testing"

	"cistern/api"
)

// checkPlace: At and Left, and that together they are all.
func checkPlace(t *testing.T, r *Reader, at, left int) {
	t.Helper()
	if r.At() != at || r.Left() != left {
		t.Errorf("at %d, left %d, want %d, %d", r.At(), r.Left(), at, left)
	}
}

func TestP25Example(t *testing.T) {
	r := NewReader("abc")
	checkPlace(t, r, 0, 3)
	if s, e := r.Take(2); s != "ab" || e != api.OK {
		t.Errorf("Take(2) = %q, error %d", s, e)
	}
	if s, e := r.Take(2); s != "" || e != api.ErrShort {
		t.Errorf("Take(2) of one byte = %q, error %d", s, e)
	}
	checkPlace(t, r, 2, 1)
	if b, e := r.Byte(); b != 99 || e != api.OK {
		t.Errorf("Byte = %d, error %d", b, e)
	}
	checkPlace(t, r, 3, 0)
}

func TestP25Bytes(t *testing.T) {
	var all []byte
	for b := range 256 {
		all = append(all, byte(b))
	}
	r := NewReader(string(all))
	for b := range 256 {
		checkPlace(t, r, b, 256-b)
		if got, e := r.Byte(); got != b || e != api.OK {
			t.Errorf("Byte = %d, error %d, want %d", got, e, b)
		}
	}
	for range 2 {
		if got, e := r.Byte(); got != 0 || e != api.ErrShort {
			t.Errorf("Byte at the end = %d, error %d", got, e)
		}
		checkPlace(t, r, 256, 0)
	}
}

func TestP25Empty(t *testing.T) {
	r := NewReader("")
	if b, e := r.Byte(); b != 0 || e != api.ErrShort {
		t.Errorf("Byte = %d, error %d", b, e)
	}
	if n, special, e := r.Len(); n != 0 || special != 0 || e != api.ErrShort {
		t.Errorf("Len = %d, %d, error %d", n, special, e)
	}
	if n, e := r.Int(); n != 0 || e != api.ErrShort {
		t.Errorf("Int = %d, error %d", n, e)
	}
	if s, e := r.Take(1); s != "" || e != api.ErrShort {
		t.Errorf("Take(1) = %q, error %d", s, e)
	}
	if s, e := r.Take(0); s != "" || e != api.OK {
		t.Errorf("Take(0) = %q, error %d", s, e)
	}
	checkPlace(t, r, 0, 0)
}

func TestP25Take(t *testing.T) {
	r := NewReader("abcdef")
	r.Byte()
	for _, n := range []int{-1, -2, -6, math.MinInt} {
		if s, e := r.Take(n); s != "" || e != api.ErrArg {
			t.Errorf("Take(%d) = %q, error %d", n, s, e)
		}
	}
	for _, n := range []int{6, 7, 1 << 31, math.MaxInt - 1, math.MaxInt} {
		if s, e := r.Take(n); s != "" || e != api.ErrShort {
			t.Errorf("Take(%d) = %q, error %d", n, s, e)
		}
	}
	checkPlace(t, r, 1, 5)
	if s, e := r.Take(0); s != "" || e != api.OK {
		t.Errorf("Take(0) = %q, error %d", s, e)
	}
	if s, e := r.Take(5); s != "bcdef" || e != api.OK {
		t.Errorf("Take(5) = %q, error %d", s, e)
	}
	if s, e := r.Take(-1); s != "" || e != api.ErrArg {
		t.Errorf("Take(-1) at the end = %q, error %d", s, e)
	}
	checkPlace(t, r, 6, 0)
}

func TestP25LenAndInt(t *testing.T) {
	r := NewReader("\x05\x40\x40\xc0\xff\xc3\xc2\x00\x00\x00\x80\x81\x00\x00\x00\x01\x00\x00\x00\x00!")
	for _, x := range []struct{ n, special, at int }{{5, 0, 1}, {64, 0, 3}} {
		if n, special, e := r.Len(); n != x.n || special != x.special || e != api.OK || r.At() != x.at {
			t.Errorf("Len = %d, %d, error %d, at %d", n, special, e, r.At())
		}
	}
	if n, e := r.Int(); n != -1 || e != api.OK || r.At() != 5 {
		t.Errorf("Int = %d, error %d, at %d", n, e, r.At())
	}
	if n, special, e := r.Len(); n != 0 || special != 4 || e != api.OK || r.At() != 6 {
		t.Errorf("Len = %d, %d, error %d, at %d", n, special, e, r.At())
	}
	if n, e := r.Int(); n != -1<<31 || e != api.OK || r.At() != 11 {
		t.Errorf("Int = %d, error %d, at %d", n, e, r.At())
	}
	if n, special, e := r.Len(); n != 1<<32 || special != 0 || e != api.OK || r.At() != 20 {
		t.Errorf("Len = %d, %d, error %d, at %d", n, special, e, r.At())
	}
	checkPlace(t, r, 20, 1)
}

func TestP25ErrorsMoveNothing(t *testing.T) {
	for s, want := range map[string]api.Errno{"\x40": api.ErrShort, "\x40\x3f": api.ErrForm, "\x80\x00\x01": api.ErrShort, "\x82\x00": api.ErrForm, "\xff": api.ErrForm, "\x81" + strings.Repeat("\xff", 8): api.ErrForm} {
		r := NewReader("!" + s)
		r.Byte()
		if n, special, e := r.Len(); n != 0 || special != 0 || e != want {
			t.Errorf("Len of % X = %d, %d, error %d", s, n, special, e)
		}
		checkPlace(t, r, 1, len(s))
	}
	for s, want := range map[string]api.Errno{"\xc0": api.ErrShort, "\xc1\x00": api.ErrShort, "\xc1\x01\x00": api.ErrForm, "\xc3\x00": api.ErrForm, "\x05": api.ErrForm} {
		r := NewReader("!" + s)
		r.Byte()
		if n, e := r.Int(); n != 0 || e != want {
			t.Errorf("Int of % X = %d, error %d", s, n, e)
		}
		checkPlace(t, r, 1, len(s))
		if rest, e := r.Take(len(s)); rest != s || e != api.OK {
			t.Errorf("behind the error % X is left, error %d", rest, e)
		}
	}
}

func TestP26Example(t *testing.T) {
	w, e := NewWriter(3)
	if w == nil || e != api.OK || w.Size() != 0 || w.Text() != "" {
		t.Fatalf("NewWriter(3): error %d", e)
	}
	if e := w.Put("ab", "cd"); e != api.ErrLong || w.Size() != 0 || w.Text() != "" {
		t.Errorf("Put of four bytes: error %d, %q", e, w.Text())
	}
	if e := w.Put("ab"); e != api.OK || w.Size() != 2 || w.Text() != "ab" {
		t.Errorf("Put of two bytes: error %d, %q", e, w.Text())
	}
}

func TestP26Limits(t *testing.T) {
	for _, limit := range []int{-1, -2, math.MinInt, api.MaxFile + 1, api.MaxFile + 2, 1 << 31, math.MaxInt} {
		if w, e := NewWriter(limit); w != nil || e != api.ErrArg {
			t.Errorf("NewWriter(%d): %v, error %d", limit, w, e)
		}
	}
	for _, limit := range []int{0, 1, 1 << 20, api.MaxFile - 1, api.MaxFile} {
		w, e := NewWriter(limit)
		if w == nil || e != api.OK {
			t.Fatalf("NewWriter(%d): error %d", limit, e)
		}
		if w.Size() != 0 || w.Text() != "" {
			t.Errorf("NewWriter(%d) has %d bytes", limit, w.Size())
		}
	}
}

func TestP26LimitZero(t *testing.T) {
	w, _ := NewWriter(0)
	if e := w.Put(); e != api.OK {
		t.Errorf("Put of no pieces: error %d", e)
	}
	if e := w.Put("", "", ""); e != api.OK {
		t.Errorf("Put of empty pieces: error %d", e)
	}
	if e := w.Put("a"); e != api.ErrLong {
		t.Errorf("Put of a byte: error %d", e)
	}
	if e := w.Len(0); e != api.ErrLong {
		t.Errorf("Len(0): error %d", e)
	}
	if w.Size() != 0 || w.Text() != "" {
		t.Errorf("%d bytes, %q", w.Size(), w.Text())
	}
}

func TestP26LimitGreatest(t *testing.T) {
	w, _ := NewWriter(api.MaxFile)
	piece := strings.Repeat("x", 1<<20)
	pieces := make([]string, api.MaxFile>>20+1)
	for i := range pieces {
		pieces[i] = piece
	}
	if e := w.Put(pieces...); e != api.ErrLong || w.Size() != 0 {
		t.Errorf("Put of more than MaxFile bytes: error %d, %d bytes", e, w.Size())
	}
	if e := w.Put(piece, "end"); e != api.OK || w.Size() != 1<<20+3 || w.Text() != piece+"end" {
		t.Errorf("Put: error %d, %d bytes", e, w.Size())
	}
	if e := w.Put(pieces[1:]...); e != api.ErrLong || w.Size() != 1<<20+3 {
		t.Errorf("Put of MaxFile bytes behind others: error %d, %d bytes", e, w.Size())
	}
}

func TestP26Put(t *testing.T) {
	w, _ := NewWriter(10)
	for _, x := range []struct {
		pieces []string
		e      api.Errno
		want   string
	}{
		{nil, api.OK, ""},
		{[]string{"", ""}, api.OK, ""},
		{[]string{"a", "", "\x00b"}, api.OK, "a\x00b"},
		{[]string{"12345678"}, api.ErrLong, "a\x00b"},
		{[]string{"1", "2", "3", "4", "5", "6", "7", "8"}, api.ErrLong, "a\x00b"},
		{[]string{"1234", "", "5678"}, api.ErrLong, "a\x00b"},
		{[]string{"12345678", "1"}, api.ErrLong, "a\x00b"},
		{[]string{"\xff23", "456"}, api.OK, "a\x00b\xff23456"},
		{[]string{"78"}, api.ErrLong, "a\x00b\xff23456"},
		{[]string{"7"}, api.OK, "a\x00b\xff234567"},
		{[]string{"8"}, api.ErrLong, "a\x00b\xff234567"},
		{[]string{""}, api.OK, "a\x00b\xff234567"},
		{nil, api.OK, "a\x00b\xff234567"},
	} {
		if e := w.Put(x.pieces...); e != x.e || w.Text() != x.want || w.Size() != len(x.want) {
			t.Errorf("Put(%q): error %d, %d bytes, %q, want error %d, %q", x.pieces, e, w.Size(), w.Text(), x.e, x.want)
		}
	}
}

func TestP26Len(t *testing.T) {
	for _, n := range lengths() {
		want := lengthBytes(n)
		w, _ := NewWriter(len(want) + 1)
		w.Put("!")
		if e := w.Len(n); e != api.OK || w.Text() != "!"+want || w.Size() != 1+len(want) {
			t.Errorf("Len(%d): error %d, % X", n, e, w.Text())
		}
		short, _ := NewWriter(len(want))
		short.Put("!")
		if e := short.Len(n); e != api.ErrLong || short.Text() != "!" {
			t.Errorf("Len(%d) without room: error %d, % X", n, e, short.Text())
		}
	}
	w, _ := NewWriter(0)
	for _, n := range []int{-1, math.MinInt, 1<<62 + 1, math.MaxInt} {
		if e := w.Len(n); e != api.ErrArg || w.Size() != 0 {
			t.Errorf("Len(%d): error %d, %d bytes", n, e, w.Size())
		}
	}
}

// TestP26TextStays: what was told is not changed by what is written later.
func TestP26TextStays(t *testing.T) {
	w, _ := NewWriter(100)
	w.Put("abc")
	first := w.Text()
	w.Put("def")
	if first != "abc" || w.Text() != "abcdef" {
		t.Errorf("%q, then %q", first, w.Text())
	}
}

// TestP26PiecesStay: a list that is handed in is neither changed nor kept.
func TestP26PiecesStay(t *testing.T) {
	w, _ := NewWriter(100)
	pieces := append(make([]string, 0, 8), "ab", "cd")
	w.Put(pieces...)
	if pieces[0] != "ab" || pieces[1] != "cd" {
		t.Errorf("the pieces are now %q", pieces)
	}
	pieces[0] = "xx"
	if w.Text() != "abcd" {
		t.Errorf("%q", w.Text())
	}
}

// TestP28AnyCalls: whatever is called, what was read is data's beginning, and errors move nothing.
func TestP28AnyCalls(t *testing.T) {
	m := mix(10)
	for range 2000 {
		data := m.text(int(m.next() >> 9 % 40))
		r := NewReader(data)
		read := ""
		for range 30 {
			at := r.At()
			var e api.Errno
			took := ""
			switch m.next() >> 11 % 4 {
			case 0:
				var b int
				if b, e = r.Byte(); e == api.OK {
					took = string([]byte{byte(b)})
				}
			case 1:
				took, e = r.Take(int(m.next()>>9%9) - 1)
			case 2:
				var n, special int
				if n, special, e = r.Len(); e == api.OK && special == 0 {
					took = lengthBytes(n)
				} else if e == api.OK {
					took = string([]byte{byte(0xC0 + special - 1)})
				}
			case 3:
				var n int
				if n, e = r.Int(); e == api.OK {
					took = formBytes(n)
				}
			}
			read += took
			if e != api.OK && (r.At() != at || took != "") {
				t.Fatalf("error %d moved from %d to %d, %q", e, at, r.At(), took)
			}
			if r.At() != len(read) || !strings.HasPrefix(data, read) || r.At()+r.Left() != len(data) {
				t.Fatalf("of % X were read % X, at %d, left %d", data, read, r.At(), r.Left())
			}
		}
	}
}

// TestP28Cuts: in two pieces or in three the same bytes come.
func TestP28Cuts(t *testing.T) {
	m := mix(11)
	data := m.text(50)
	for a := range len(data) + 1 {
		for b := range len(data) - a + 1 {
			r := NewReader(data)
			one, _ := r.Take(a)
			two, _ := r.Take(b)
			three, e := r.Take(r.Left())
			if one+two+three != data || e != api.OK || len(one) != a || len(two) != b {
				t.Fatalf("cut at %d and %d behind it: error %d", a, b, e)
			}
			checkPlace(t, r, len(data), 0)
		}
	}
}

// TestReadersAlone: two Readers of one text, and two Writers, know nothing of each other.
func TestReadersAlone(t *testing.T) {
	a, b := NewReader("abc"), NewReader("abc")
	a.Take(2)
	checkPlace(t, b, 0, 3)
	v, _ := NewWriter(5)
	w, _ := NewWriter(5)
	v.Put("abc")
	w.Put("x")
	if v.Text() != "abc" || w.Text() != "x" {
		t.Errorf("%q, %q", v.Text(), w.Text())
	}
}
