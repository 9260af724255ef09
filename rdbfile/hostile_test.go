package rdbfile

import (
	"fmt"
	"runtime"
	"strings"
	"testing"

	"cistern/api"
	"cistern/codec"
	"cistern/value"
)

// checkHostile holds bytes against the chapter, and what is taken of them against what an image and a space may be. It tells whether they are taken.
func checkHostile(t testing.TB, s string, c api.Config, now int) bool {
	t.Helper()
	got := checkFile(t, s)
	if got.e != api.OK {
		return false
	}
	if s[len(s)-8:] != summed(s[:len(s)-8])[len(s)-8:] {
		t.Fatalf("%q: another sum", s)
	}
	if e := refCheck(got.image); e != api.OK {
		t.Fatalf("%q: an image that may not be: %d", s, e)
	}
	if again, _, e := Decode(encoded(t, got.image, true)); e != api.OK || !same(again, got.image) {
		t.Fatalf("%q: not back: %d", s, e)
	}
	checkLoaded(t, got.image, c, now)
	return true
}

// checkLoaded loads an image: it is refused for the first body that is none, or all its values are valid.
func checkLoaded(t testing.TB, i api.Image, c api.Config, now int) {
	t.Helper()
	want := api.OK
	for _, space := range i.Spaces {
		if space.Index >= c.Spaces {
			want = api.ErrArg
		}
	}
	for _, space := range i.Spaces {
		for _, item := range space.Items {
			if _, e := codec.Decode(item.Type, item.Body, c.Limits); want == api.OK && e != api.OK {
				want = e
			}
		}
	}
	sp, e := Load(i, c, now)
	if e != want || (sp == nil) != (e != api.OK) {
		t.Fatalf("Load(%s): %d; want %d", shortImage(i), e, want)
	}
	if sp == nil {
		return
	}
	for db := range c.Spaces {
		for _, key := range sp.Keys(db) {
			v, _ := sp.Peek(db, key)
			if w, e := value.Load(v.Kind(), v.Encoding(), v.Raw(), c.Limits); e != api.OK || !w.Equal(v) {
				t.Fatalf("%q: a value that is none", key)
			}
		}
	}
}

func someConfig(m *mix) api.Config { return config(of(m, 1, 4, 16, 16), of(m, several...)) }

// hostileFiles are many files, whole.
func hostileFiles(t testing.TB, m *mix, n int) []string {
	files := soundFiles(t)
	for len(files) < n {
		files = append(files, encoded(t, someImage(m), m.below(2) == 0))
	}
	return files
}

// TestHostileShort: all short rows of the bytes that matter behind the head, behind a select and behind a resize.
func TestHostileShort(t *testing.T) {
	matter := "\x00\x01\x02\x12\x40\x81\xc0\xc3\xfa\xfb\xfc\xfe\xff"
	for _, first := range []string{head, head + choose(0), head + choose(0) + resize(1, 0), head + choose(0) + resize(2, 1) + due(3) + "\x00"} {
		var walk func(s string)
		walk = func(s string) {
			checkFile(t, first+s)
			checkFile(t, summed(first+s))
			if len(s) < 4 {
				for i := range len(matter) {
					walk(s + matter[i:i+1])
				}
			}
		}
		walk("")
	}
	m := mix(16)
	for range 20000 {
		checkFile(t, m.text(m.below(30), 26))
		checkFile(t, head+string(eightBytes(m.next()))+eightBytes(m.next())+eightBytes(m.next()))
	}
}

// TestHostileCut: each beginning of files, with its sum, and with an end.
func TestHostileCut(t *testing.T) {
	m := mix(17)
	for _, s := range hostileFiles(t, &m, 60) {
		for n := 9; n < len(s)-9; n++ {
			checkHostile(t, summed(s[:n]), someConfig(&m), m.below(9))
			checkHostile(t, sealed(s[:n]), someConfig(&m), m.below(9))
		}
	}
}

// TestHostileChanged: files with bytes that were changed, taken out or put in, and right sums over them.
func TestHostileChanged(t *testing.T) {
	m := mix(18)
	files := hostileFiles(t, &m, 400)
	taken := 0
	for range 40000 {
		s := of(&m, files...)
		b := []byte(s[:len(s)-8])
		for range 1 + m.below(3) {
			at := 9 + m.below(len(b)-8)
			switch {
			case at >= len(b) || m.below(4) == 0:
				at = min(at, len(b))
				b = append(b[:at:at], append([]byte{byte(m.below(256))}, b[at:]...)...)
			case m.below(4) == 0:
				b = append(b[:at:at], b[at+1:]...)
			case m.below(2) == 0:
				b[at] ^= 1 << m.below(8)
			default:
				b[at] = byte(m.below(256))
			}
			if len(b) < 10 {
				break
			}
		}
		if checkHostile(t, summed(string(b)), someConfig(&m), m.below(9)) {
			taken++
		}
		checkFile(t, string(b)+s[len(s)-8:])
	}
	if taken < 1000 {
		t.Errorf("%d were taken alone", taken)
	}
}

// TestHostileJoined: parts of all sorts, sound or not, joined, with right sums.
func TestHostileJoined(t *testing.T) {
	m := mix(19)
	files := hostileFiles(t, &m, 100)
	item := func() string {
		i := of(&m, every()...)
		return string([]byte{byte(i.Type)}) + of(&m, plain(of(&m, "a", "b", "")), "\xc0\x01", run("a"), plain(i.Key)) + i.Body
	}
	piece := func() string {
		switch m.below(9) {
		case 0:
			return aux(m.word(), m.word())
		case 1, 2:
			return choose(m.below(4)) + resize(1+m.below(3), m.below(2))
		case 3, 4, 5:
			return of(&m, "", "", "", due(m.below(9))) + item()
		case 6:
			return of(&m, choose(m.below(20)), resize(m.below(3), m.below(3)), due(m.below(9)), "\xff", "\xfc"+eightBytes(m.next()))
		case 7:
			return choose(m.below(4)) + resize(1, 0) + item()
		}
		s := of(&m, files...)
		from := m.below(len(s))
		return s[from : from+m.below(min(len(s)-from, 40)+1)]
	}
	taken := 0
	for range 40000 {
		s := of(&m, head, head+choose(0)+resize(1, 0)+item(), head+choose(1)+resize(2, 1)+due(m.below(9))+item())
		for range m.below(4) {
			s += piece()
		}
		if checkHostile(t, sealed(s), someConfig(&m), m.below(9)) {
			taken++
		}
		checkFile(t, s)
	}
	if taken < 1000 {
		t.Errorf("%d were taken alone", taken)
	}
}

// TestHostileImages: images of all sorts, most of which may not be: Encode and Load end, and answer what the chapter says.
func TestHostileImages(t *testing.T) {
	m := mix(20)
	met := map[api.Errno]int{}
	for range 20000 {
		i := someImage(&m)
		for range m.below(3) {
			if len(i.Spaces) == 0 {
				break
			}
			space := &i.Spaces[m.below(len(i.Spaces))]
			if len(space.Items) == 0 {
				break
			}
			item := &space.Items[m.below(len(space.Items))]
			switch m.below(7) {
			case 0:
				space.Index += m.below(9) - 4
			case 1:
				item.Expiry = of(&m, -2, api.MaxNumber+1, int(m.next()))
			case 2:
				item.Type = of(&m, 1, -1, 256, m.below(30), int(m.next()))
			case 3:
				item.Body = of(&m, item.Body+"\x00", item.Body[:m.below(len(item.Body)+1)], m.word())
			case 4:
				space.Items = append(space.Items, *item)
			case 5:
				space.Items = nil
			case 6:
				i.Spaces = append(i.Spaces, *space)
			}
		}
		want := refCheck(i)
		met[want]++
		s, e := Encode(i, m.below(2) == 0)
		if e != want || (s == "") != (e != api.OK) {
			t.Fatalf("Encode(%s): %d; want %d", shortImage(i), e, want)
		}
		c := someConfig(&m)
		if want == api.OK {
			checkLoaded(t, i, c, m.below(9))
		} else {
			checkRefused(t, "an image that may not be", i, c, m.below(9), api.ErrArg)
		}
	}
	for _, e := range []api.Errno{api.OK, api.ErrTwice, api.ErrValue, api.ErrArg} {
		if met[e] < 500 {
			t.Errorf("error %d: %d alone", e, met[e])
		}
	}
}

// spent is how many bytes a call takes.
func spent(call func()) int {
	var before, behind runtime.MemStats
	runtime.ReadMemStats(&before)
	call()
	runtime.ReadMemStats(&behind)
	return int(behind.TotalAlloc - before.TotalAlloc)
}

func checkSpent(t *testing.T, s string, most int) {
	t.Helper()
	for name, call := range map[string]func(){"Decode": func() { Decode(s) }, "Parts": func() { Parts(s) }} {
		if bytes := spent(call); bytes > most {
			t.Errorf("%s(%s) takes %d bytes; %d may be", name, short(s), bytes, most)
		}
	}
}

// TestHostileMemory: few bytes that claim much take little, and many take a fixed multiple.
func TestHostileMemory(t *testing.T) {
	space := head + choose(0) + resize(api.MaxKeys, api.MaxKeys)
	for _, s := range []string{
		"", head, space, space + "\x00", space + text("a", ""), sealed(space + text("a", "")), space + due(1),
		head + "\xfa" + length(codec.MaxBlob), head + "\xfa" + packed("\x00a", api.MaxElement), head + "\xfa\x00" + "\xc3" + length(codec.MaxBlob) + length(codec.MaxBlob),
		space + "\x00" + packed("\x00a", api.MaxElement), space + "\x02\x01a" + length(api.MaxCount), space + "\x12\x01a" + length(api.MaxCount) + "\x02",
		head + choose(0) + resize(1<<62, 1<<62),
	} {
		checkSpent(t, s, 1<<15)
	}
	var keys strings.Builder
	for n := range api.MaxKeys {
		keys.WriteString("\x00" + plain(fmt.Sprintf("%x", n)) + "\x00")
	}
	for _, s := range []string{
		space + keys.String(), head + strings.Repeat("\xfa\x00\x00", 1<<18), head + aux(strings.Repeat("x", api.MaxElement), ""),
		head + choose(0) + resize(1, 0) + "\x02\x01a" + length(1<<20) + strings.Repeat("\x00", 1<<20), head + choose(0) + resize(1, 0) + "\x00\x01a" + plain(strings.Repeat("x", 1<<22)),
	} {
		checkSpent(t, s, 250*len(s))
		checkSpent(t, sealed(s), 250*len(s))
	}
	long := codec.PutText(strings.Repeat("x", api.MaxElement), true)
	checkSpent(t, head+strings.Repeat("\xfa"+long+long, 10), 20*8*api.MaxElement)
	checkSpent(t, space+"\x00"+long, 8*api.MaxElement)
}
