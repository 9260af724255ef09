package codec

import (
	"math"
	"runtime"
	"strings"
	"testing"

	"cistern/api"
	"cistern/intset"
	"cistern/listpack"
)

// types are all types, and some that are none.
var types = []int{0, 2, 3, 4, 11, 16, 17, 18, 20, 1, 5, 19, 21, -1, 255, math.MaxInt}

// checkAll holds all calls against the chapter's words, with one of the thresholds.
func checkAll(t *testing.T, m *mix, typ int, s string) {
	t.Helper()
	checkText(t, s)
	checkValue(t, typ, s, several[m.below(len(several))])
}

// bodies gives the types and bytes of many values.
func bodies(m *mix, n int) []written {
	var all []written
	for _, s := range samples() {
		all = append(all, written{s.typ, s.body})
	}
	for len(all) < n {
		v := grown(m, kinds[m.below(len(kinds))], several[m.below(len(several))])
		if typ, body, e := Encode(v, m.below(2) == 0); e == api.OK && len(body) < 2000 {
			all = append(all, written{typ, body})
		}
	}
	return all
}

// TestHostileShort: all texts of up to two bytes, and longer ones of the bytes that matter, as all types.
func TestHostileShort(t *testing.T) {
	m := mix(21)
	for _, typ := range types {
		checkAll(t, &m, typ, "")
		for a := range 256 {
			checkAll(t, &m, typ, string([]byte{byte(a)}))
			for b := range 256 {
				checkValue(t, typ, string([]byte{byte(a), byte(b)}), middle)
			}
		}
	}
	matter := "\x00\x01\x02\x03\x40\x80\x81\xc0\xc1\xc3\xff"
	for _, typ := range []int{0, 2, 3, 4, 18, 20} {
		var walk func(s string)
		walk = func(s string) {
			checkValue(t, typ, s, middle)
			if len(s) < 4 {
				for i := range len(matter) {
					walk(s + matter[i:i+1])
				}
			}
		}
		walk("")
	}
}

// TestHostileBeginnings: each beginning of values, as their type and as another.
func TestHostileBeginnings(t *testing.T) {
	m := mix(22)
	for _, w := range bodies(&m, 200) {
		for n := range len(w.body) + 1 {
			checkValue(t, w.typ, w.body[:n], middle)
		}
		checkAll(t, &m, types[m.below(len(types))], w.body)
	}
}

// TestHostileChanged: values with bytes that were changed, taken out or put in.
func TestHostileChanged(t *testing.T) {
	m := mix(23)
	all := bodies(&m, 1500)
	taken := 0
	for range 60000 {
		w := all[m.below(len(all))]
		b := []byte(w.body)
		for range 1 + m.below(3) {
			at := m.below(len(b) + 1)
			switch {
			case len(b) == 0 || at == len(b) || m.below(4) == 0:
				b = append(b[:at:at], append([]byte{byte(m.below(256))}, b[at:]...)...)
			case m.below(4) == 0:
				b = append(b[:at:at], b[at+1:]...)
			case m.below(2) == 0:
				b[at] ^= 1 << m.below(8)
			default:
				b[at] = byte(m.below(256))
			}
		}
		checkAll(t, &m, w.typ, string(b))
		if Checked(w.typ, string(b)) == api.OK {
			taken++
		}
	}
	if taken < 1000 {
		t.Errorf("%d were taken alone", taken)
	}
}

// TestHostileJoined: pieces of values, and texts of all sorts, joined.
func TestHostileJoined(t *testing.T) {
	m := mix(24)
	all := bodies(&m, 500)
	piece := func() string {
		switch m.below(6) {
		case 0:
			return PutText(word(&m), m.below(2) == 0)
		case 1:
			return plain(pack(word(&m), word(&m)))
		case 2:
			return length(m.below(5))
		case 3:
			return "\x02"
		case 4:
			return packed(runs(m.text(1+m.below(9), 2)), 1+m.below(9))
		}
		body := all[m.below(len(all))].body
		from := m.below(len(body))
		return body[from : from+m.below(len(body)-from+1)]
	}
	for range 30000 {
		s := ""
		for range 1 + m.below(5) {
			s += piece()
		}
		checkAll(t, &m, types[m.below(len(types))], s)
	}
}

// TestHostileSets: members, fields and scores that are whole, in some order, with some twice.
func TestHostileSets(t *testing.T) {
	m := mix(25)
	taken := 0
	for range 30000 {
		typ := []int{2, 3, 4}[m.below(3)]
		n := m.below(4)
		s := length(n)
		for range n {
			s += PutText(m.text(m.below(3), 2), false)
			if typ != 2 {
				s += PutText(textOf(m.below(4)-1), false)
			}
		}
		checkValue(t, typ, s, several[m.below(len(several))])
		if Checked(typ, s) == api.OK {
			taken++
		}
	}
	if taken < 5000 {
		t.Errorf("%d were taken alone", taken)
	}
}

// TestHostileBlobs: listpacks and intsets of all sorts as all types of blobs.
func TestHostileBlobs(t *testing.T) {
	m := mix(26)
	for range 30000 {
		var blob string
		if m.below(3) == 0 {
			blob = intset.New()
			for range m.below(6) {
				blob, _, _ = intset.Add(blob, int(m.next())>>m.below(64))
			}
		} else {
			var entries []string
			for range m.below(7) {
				entries = append(entries, m.text(m.below(3), 3), textOf(m.below(5)))
			}
			blob, _ = listpack.New(entries[:len(entries)-m.below(2)*min(len(entries), 1)]...)
		}
		if m.below(4) == 0 && blob != "" {
			b := []byte(blob)
			b[m.below(len(b))] ^= 1 << m.below(8)
			blob = string(b)
		}
		for _, typ := range []int{11, 16, 17, 20} {
			checkValue(t, typ, PutText(blob, m.below(2) == 0), several[m.below(len(several))])
		}
		checkValue(t, 18, "\x01\x02"+plain(blob), several[m.below(len(several))])
	}
}

// spent is how many bytes a call takes.
func spent(call func()) int {
	var before, behind runtime.MemStats
	runtime.ReadMemStats(&before)
	call()
	runtime.ReadMemStats(&behind)
	return int(behind.TotalAlloc - before.TotalAlloc)
}

// TestHostileMemory: few bytes that claim much take little.
func TestHostileMemory(t *testing.T) {
	claims := []string{
		length(api.MaxCount), length(api.MaxCount) + "\x01a", length(api.MaxCount) + "\x02\x01a", length(MaxBlob), length(MaxBlob) + "a",
		"\xc3" + length(MaxBlob) + length(MaxBlob), packed("\x00a", api.MaxElement), packed("\x00a", MaxBlob), "\x01" + packed("\x00a", api.MaxElement),
		"\x01\x02" + packed("\x00a", api.MaxElement), "\x0d\x0d\x00\x00\x04\xff\xff\x81a\x02\x81b\x02\xff", "\x0c\x08\x00\x00\x00\x00\x00\x10\x00\x01\x00\x02\x00",
	}
	for _, s := range claims {
		for _, typ := range types {
			bytes := spent(func() {
				Text(s)
				Size(typ, s)
				Decode(typ, s, most)
				Checked(typ, s)
			})
			if bytes > 1<<16 {
				t.Errorf("type %d, %q takes %d bytes", typ, s, bytes)
			}
		}
	}
	long := strings.Repeat("\x01a", 1<<19)
	for _, typ := range types {
		for _, s := range []string{length(1<<19) + long, length(1<<18) + long, plain(long[:1<<19]), length(1<<19) + strings.Repeat("\x02\x00", 1<<19)} {
			bytes := spent(func() { Decode(typ, s, middle) })
			if bytes > 400*len(s) {
				t.Errorf("type %d: %s takes %d bytes", typ, short(s), bytes)
			}
		}
	}
}
