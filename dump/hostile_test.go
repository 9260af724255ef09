package dump

import (
	"runtime"
	"strings"
	"testing"

	"cistern/api"
	"cistern/codec"
	"cistern/value"
)

// hostile asks Restore and RESTORE of a payload, whatever it is: an error changes nothing, and what is taken is a value that may be. It tells whether it is taken.
func hostile(t testing.TB, m *mix, p *trial, payload string) bool {
	t.Helper()
	th := of(m, several...)
	v, e := restored(t, payload, th)
	if e == api.OK {
		if refSum(payload) != 0 {
			t.Fatalf("%s is taken with another sum", short(payload))
		}
		if w, e := value.Load(v.Kind(), v.Encoding(), v.Raw(), th); e != api.OK || !w.Equal(v) {
			t.Fatalf("%s is a value that is none: %d", short(payload), e)
		}
		unharmed(t, m, payload, 5)
	}
	key := of(m, "str", "list", "timed", "new", "k")
	args := []string{"RESTORE", key, of(m, "0", "0", "5", "2000"), payload}
	if m.below(2) == 0 {
		args = append(args, "REPLACE")
	}
	p.ask(args...) // by an error the model changes nothing
	return e == api.OK
}

// edited is a text of which some bytes were changed, taken out or put in.
func edited(m *mix, s string) string {
	b := []byte(s)
	for range 1 + m.below(3) {
		at := m.below(len(b) + 1)
		switch {
		case at == len(b) || m.below(4) == 0:
			b = append(b[:at:at], append([]byte{byte(m.below(256))}, b[at:]...)...)
		case m.below(4) == 0:
			b = append(b[:at:at], b[at+1:]...)
		case m.below(2) == 0:
			b[at] ^= 1 << m.below(8)
		default:
			b[at] = byte(m.below(256))
		}
	}
	return string(b)
}

// TestDU4Cut: beginnings and ends of payloads, as they are and with right sums, with the version ahead of that or without.
func TestDU4Cut(t *testing.T) {
	t.Parallel()
	m := mix(10)
	p := begun(t)
	for _, s := range sound(&m, 60) {
		s = s[:min(len(s), 300)]
		for n := range s {
			for _, part := range []string{s[:n], s[n:], summed(s[:n]), summed(s[:n] + "\x0b\x00"), summed(s[n:])} {
				hostile(t, &m, p, part)
			}
		}
	}
}

// TestDU4Changed: payloads with bytes that were changed, taken out or put in, with the old sum and with the right one.
func TestDU4Changed(t *testing.T) {
	t.Parallel()
	m := mix(11)
	p := begun(t)
	list := sound(&m, 800)
	taken := 0
	for range 12000 {
		s := of(&m, list...)
		if len(s) > 500 {
			continue
		}
		ahead, sum := s[:len(s)-8], s[len(s)-8:]
		hostile(t, &m, p, edited(&m, s))
		hostile(t, &m, p, edited(&m, ahead)+sum)
		if hostile(t, &m, p, summed(edited(&m, ahead))) {
			taken++
		}
		if hostile(t, &m, p, payloadOf(int(s[0]), edited(&m, ahead[1:len(ahead)-2]))) {
			taken++
		}
	}
	if taken < 1000 {
		t.Errorf("%d were taken alone", taken)
	}
}

// TestDU4Joined: pieces of payloads and of values, joined, with right sums and with none.
func TestDU4Joined(t *testing.T) {
	t.Parallel()
	m := mix(12)
	p := begun(t)
	list := sound(&m, 300)
	piece := func() string {
		switch m.below(6) {
		case 0:
			return codec.PutText(m.word(), m.below(2) == 0)
		case 1:
			return plain(pack(m.word(), m.word()))
		case 2:
			return length(m.below(5))
		case 3:
			return "\x02"
		case 4:
			return of(&m, "\x0b\x00", "\x0a\x00", "\x00\x00", "\x0c\x00")
		}
		s := of(&m, list...)
		from := m.below(len(s))
		return s[from : from+m.below(min(len(s)-from, 60)+1)]
	}
	taken := 0
	for range 20000 {
		s := ""
		for range 1 + m.below(5) {
			s += piece()
		}
		hostile(t, &m, p, s)
		hostile(t, &m, p, summed(s))
		if hostile(t, &m, p, payloadOf(of(&m, 0, 2, 3, 4, 11, 16, 17, 18, 20, m.below(256)), s)) {
			taken++
		}
	}
	if taken < 300 {
		t.Errorf("%d were taken alone", taken)
	}
}

// TestDU4Short: all rows of some bytes that matter, whole and with right sums.
func TestDU4Short(t *testing.T) {
	m := mix(13)
	p := begun(t)
	matter := "\x00\x01\x02\x0b\x12\x40\xc0\xc3\xff"
	var walk func(s string)
	walk = func(s string) {
		restored(t, s, middle)
		restored(t, summed(s), middle)
		restored(t, summed(s+"\x0b\x00"), middle)
		if len(s) < 4 {
			for i := range len(matter) {
				walk(s + matter[i:i+1])
			}
		}
	}
	walk("")
	for range 5000 {
		s := m.text(m.below(30), 26)
		hostile(t, &m, p, s)
		hostile(t, &m, p, payloadOf(m.below(21), s))
	}
	for range 5000 {
		b := make([]byte, m.below(40))
		for i := range b {
			b[i] = byte(m.below(256))
		}
		hostile(t, &m, p, string(b))
		hostile(t, &m, p, summed(string(b)))
	}
}

// spent is how many bytes a call takes.
func spent(call func()) int {
	var before, behind runtime.MemStats
	runtime.ReadMemStats(&before)
	call()
	runtime.ReadMemStats(&behind)
	return int(behind.TotalAlloc - before.TotalAlloc)
}

// TestDU4Memory: few bytes that claim much take little, and many take a fixed multiple of their length and of the limits.
func TestDU4Memory(t *testing.T) {
	sp := newSpace(most, true)
	check := func(payload string, limit int) {
		t.Helper()
		for name, call := range map[string]func(){
			"Restore": func() { Restore(payload, most) },
			"RESTORE": func() { Do(sp, 0, []string{"RESTORE", "a", "0", payload, "REPLACE"}) },
		} {
			if bytes := spent(call); bytes > limit {
				t.Errorf("%s of %s takes %d bytes; %d may be", name, short(payload), bytes, limit)
			}
		}
	}
	for _, typ := range []int{0, 2, 3, 4, 11, 16, 17, 18, 20} {
		for _, body := range []string{
			"", length(api.MaxCount), length(api.MaxCount) + "\x01a", length(api.MaxCount) + "\x02\x01a", length(codec.MaxBlob), "\xc3" + length(codec.MaxBlob) + length(codec.MaxBlob),
			packed("\x00a", api.MaxElement), packed("\x00a", codec.MaxBlob), "\x01" + packed("\x00a", api.MaxElement), "\x01\x02" + packed("\x00a", api.MaxElement),
		} {
			check(payloadOf(typ, body), 1<<16)
		}
	}
	long := strings.Repeat("long", 1<<16)
	for _, payload := range []string{long, payloadOf(0, plain(long)), payloadOf(0, long), payloadOf(2, length(1<<17)+strings.Repeat("\x01a", 1<<17)), strings.Repeat("\x00", 1<<20)} {
		check(payload, 250*len(payload))
	}
	check(payloadOf(0, codec.PutText(strings.Repeat("x", api.MaxElement), true)), 20*api.MaxElement)
}
