package dump

import (
	"strings"
	"testing"

	"cistern/api"
)

// changed is a payload of which bits are changed: bit i of the mask is bit from + i of the payload, the lowest of a byte first.
func changed(s string, from int, mask uint64) string {
	b := []byte(s)
	for i := range 64 {
		if at := from + i; mask>>i&1 == 1 && at < 8*len(b) {
			b[at/8] ^= 1 << (at % 8)
		}
	}
	return string(b)
}

// masks are changes within 64 bits, each with its lowest bit set.
func masks(m *mix) []uint64 {
	return []uint64{1, 3, 1<<63 + 1, 1<<64 - 1, 0xff, 0x101, m.next() | 1, m.next() | 1<<63 | 1, m.next()&m.next() | 1, m.next()&m.next()&m.next() | 1}
}

// noPayload holds that Restore answers ErrPayload, and no value.
func noPayload(t testing.TB, s, from string) {
	t.Helper()
	if v, e := Restore(s, middle); v != nil || e != api.ErrPayload {
		t.Fatalf("Restore(%s): error %d; it comes of %s", short(s), e, short(from))
	}
}

// unharmed holds what DU4 says of a payload that is taken: changes within 64 bits at many places, and all beginnings, are refused.
func unharmed(t testing.TB, m *mix, s string, places int) {
	t.Helper()
	for range places {
		noPayload(t, changed(s, m.below(8*len(s)), masks(m)[m.below(10)]), s)
	}
	for n := range s {
		if v, e := Restore(s[:n], middle); v != nil || e == api.OK {
			t.Fatalf("%d bytes of %s are taken", n, short(s))
		}
	}
}

// TestDU4Bits: a payload of which bits are changed within 64 that follow one another is none: one bit, all, some, at every place.
func TestDU4Bits(t *testing.T) {
	m := mix(7)
	for _, s := range sound(&m, 40) {
		if len(s) > 400 {
			continue
		}
		for from := range 8 * len(s) {
			for _, mask := range masks(&m) {
				noPayload(t, changed(s, from, mask), s)
			}
		}
	}
	for _, s := range []string{payloadOf(0, "\x00"), versioned(0, "\xc0\x0c", 0, 0)} {
		for from := range 8 * len(s) {
			for range 2000 {
				noPayload(t, changed(s, from, m.next()|1), s)
			}
		}
	}
}

// TestDU4Bytes: up to eight bytes that follow one another are exchanged for others, at every place; those of the version and of the sum among them.
func TestDU4Bytes(t *testing.T) {
	m := mix(8)
	for _, s := range sound(&m, 60) {
		if len(s) > 400 {
			continue
		}
		for at := range s {
			for n := 1; n <= min(8, len(s)-at); n++ {
				from := m.below(len(s) - n + 1)
				for _, bytes := range []string{strings.Repeat("\x00", n), strings.Repeat("\xff", n), s[from : from+n], m.text(n, 26), "\x0a\x00"[:min(n, 2)]} {
					if other := s[:at] + bytes + s[at+len(bytes):]; other != s {
						noPayload(t, other, s)
					}
				}
			}
		}
	}
}

// TestDU4Beginnings: of a payload that is taken no beginning is; also where its bytes hold what looks like another payload.
func TestDU4Beginnings(t *testing.T) {
	m := mix(9)
	list := sound(&m, 300)
	inner := payloadOf(0, "\x01a")
	for _, text := range []string{inner, inner + inner, "\x0b\x00" + inner, strings.Repeat(inner, 30), inner[1:], strings.Repeat("\x00", 40), "\x0b\x00" + strings.Repeat("\x00", 60)} {
		list = append(list, payloadOf(0, plain(text)), payloadOf(2, "\x01"+plain(text)))
	}
	body := plain(summed("\x00" + length(30) + "\x0b\x00"))
	list = append(list, payloadOf(0, body))
	for _, s := range list {
		if _, e := restored(t, s, middle); e != api.OK {
			t.Fatalf("%s: error %d", short(s), e)
		}
		unharmed(t, &m, s, 20)
	}
}

// TestDU4Inside: a beginning whose own sum is right is no value's payload, as the value in it would end sooner.
func TestDU4Inside(t *testing.T) {
	for _, s := range samples() {
		whole := payloadOf(s.typ, s.body)
		longer := summed(whole + "\x0b\x00")
		refused(t, longer, middle, api.ErrValue)
		if longer[:len(whole)] != whole {
			t.Fatal("the beginning is another one")
		}
		if _, e := restored(t, longer[:len(whole)], middle); e != api.OK {
			t.Fatalf("%s: error %d", s.name, e)
		}
	}
}
