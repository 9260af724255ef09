package rdbfile

import (
	"strings"
	"testing"

	"cistern/api"
)

// soundFiles are files of many sorts.
func soundFiles(t testing.TB) []string {
	var files []string
	for n, i := range samples() {
		files = append(files, encoded(t, i, n%2 == 0))
	}
	m := mix(12)
	for range 10 {
		files = append(files, encoded(t, snapped(t, grownSpace(&m, config(5, middle), several...), api.Pair{Name: "n", Value: m.word()}), true))
	}
	return files
}

// refused holds that bytes are no file, and that nothing is told of an image.
func refused(t testing.TB, s, from string) {
	t.Helper()
	i, at, e := Decode(s)
	if e == api.OK || at < 0 || at > len(s) || !same(i, api.Image{}) {
		t.Fatalf("Decode(%q) = %s at %d error %d; it comes of %q", s, shortImage(i), at, e, from)
	}
	if _, n, f := Parts(s); n != at || f != e {
		t.Fatalf("Parts(%q): at %d error %d; want %d, %d", s, n, f, at, e)
	}
}

// TestBeginnings: of a file no beginning is one, and what is told of it is what the chapter says.
func TestBeginnings(t *testing.T) {
	for _, s := range soundFiles(t) {
		for n := range s {
			refused(t, s[:n], s)
			if got := checkFile(t, s[:n]); got.e != api.ErrShort {
				t.Fatalf("%d of %q: error %d", n, s, got.e)
			}
		}
		checkFault(t, "all of it", s, len(s), api.OK)
	}
}

// TestBehind: a file with anything behind it is none.
func TestBehind(t *testing.T) {
	for _, s := range soundFiles(t) {
		for b := range 256 {
			checkFault(t, "a byte behind", s+string([]byte{byte(b)}), len(s), api.ErrBehind)
		}
		for n := range s {
			checkFault(t, "a beginning behind", s+s[:n+1], len(s), api.ErrBehind)
			checkFault(t, "an end behind", s+s[n:], len(s), api.ErrBehind)
		}
		checkFault(t, "a sum behind", summed(s), len(s), api.ErrBehind)
		checkFault(t, "an end behind", sealed(s), len(s), api.ErrBehind)
		checkFault(t, "much behind", s+strings.Repeat("\xff", 1000), len(s), api.ErrBehind)
	}
}

// changed is a file of which bits are changed: bit i of the mask is bit from + i of the file, the lowest of a byte first.
func changed(s string, from int, mask uint64) string {
	b := []byte(s)
	for i := range 64 {
		if at := from + i; mask>>i&1 == 1 && at < 8*len(b) {
			b[at/8] ^= 1 << (at % 8)
		}
	}
	return string(b)
}

// TestChangedBits: a file of which bits are changed within 64 that follow one another is none: one bit, all, some, at every place.
func TestChangedBits(t *testing.T) {
	m := mix(13)
	for _, s := range soundFiles(t) {
		if len(s) > 700 {
			continue
		}
		for from := range 8 * len(s) {
			masks := []uint64{1, 3, 1<<63 + 1, 1<<64 - 1, 0xff, 0x101, m.next() | 1, m.next() | 1<<63 | 1, m.next()&m.next() | 1, m.next()&m.next()&m.next() | 1}
			for _, mask := range masks {
				refused(t, changed(s, from, mask), s)
			}
			if from%17 == 0 {
				checkFile(t, changed(s, from, masks[m.below(len(masks))]))
			}
		}
	}
}

// TestChangedBytes: up to eight bytes that follow one another are exchanged for others, at every place.
func TestChangedBytes(t *testing.T) {
	m := mix(14)
	for _, s := range soundFiles(t) {
		if len(s) > 700 {
			continue
		}
		for at := range s {
			for n := 1; n <= min(8, len(s)-at); n++ {
				from := m.below(len(s) - n + 1)
				for _, bytes := range []string{strings.Repeat("\x00", n), strings.Repeat("\xff", n), s[from : from+n], m.text(n, 26), eightBytes(m.next())[:n]} {
					if other := s[:at] + bytes + s[at+n:]; other != s {
						refused(t, other, s)
					}
				}
			}
		}
		for b := range 256 {
			at := m.below(len(s))
			if s[at] != byte(b) {
				checkFile(t, s[:at]+string([]byte{byte(b)})+s[at+1:])
			}
		}
	}
}

// TestChangedEnds: changes that reach over the end's beginning, and into the sum, such as might make a shorter or a longer file.
func TestChangedEnds(t *testing.T) {
	inner := sealed(head)
	for _, i := range []api.Image{
		{Aux: []api.Pair{{Name: inner[9:], Value: inner[9:]}}},
		one(api.Item{Key: inner[9:], Body: plain(inner[9:]), Expiry: -1}),
		one(api.Item{Key: "k", Body: plain("\xff" + strings.Repeat("\x00", 40)), Expiry: -1}),
	} {
		s := encoded(t, i, false)
		m := mix(15)
		for from := range 8 * len(s) {
			for range 60 {
				refused(t, changed(s, from, m.next()|1), s)
			}
			for _, end := range []string{"\xff", inner[9:], "\xff" + eightBytes(0)} {
				if at := from / 8; at+len(end) <= len(s) && len(end) <= 8 && s[at:at+len(end)] != end {
					refused(t, s[:at]+end+s[at+len(end):], s)
				}
			}
		}
	}
}
