package dump

import (
	"math"
	"slices"
	"strings"
	"testing"

	"cistern/api"
	"cistern/codec"
	"cistern/value"
)

// refPayload is the payload of a value by the chapter's words.
func refPayload(v *value.Value, compress bool) (string, api.Errno) {
	typ, body, e := codec.Encode(v, compress)
	if e != api.OK {
		return "", e
	}
	return payloadOf(typ, body), api.OK
}

// refRestore is the value of a payload by the chapter's words.
func refRestore(payload string, th api.Thresholds) (*value.Value, api.Errno) {
	if value.Check(th) != api.OK {
		return nil, api.ErrArg
	}
	n := len(payload)
	if n < 11 {
		return nil, api.ErrPayload
	}
	if int(payload[n-10])+256*int(payload[n-9]) > 11 {
		return nil, api.ErrPayload
	}
	if summed(payload[:n-8]) != payload {
		return nil, api.ErrPayload
	}
	return codec.Decode(int(payload[0]), payload[1:n-10], th)
}

// alike tells whether two values can't be told from each other; two that are none are alike.
func alike(a, b *value.Value) bool {
	if a == nil || b == nil {
		return a == b
	}
	return a.Kind() == b.Kind() && a.Encoding() == b.Encoding() && slices.Equal(a.Raw(), b.Raw()) && a.Equal(b) && b.Equal(a)
}

// restored holds Restore against the chapter's words, and tells what it answers.
func restored(t testing.TB, payload string, th api.Thresholds) (*value.Value, api.Errno) {
	t.Helper()
	v, e := Restore(payload, th)
	want, wantErr := refRestore(payload, th)
	if e != wantErr || !alike(v, want) || (v == nil) != (e != api.OK) {
		t.Fatalf("Restore(%s): error %d; want %d", short(payload), e, wantErr)
	}
	return v, e
}

// refused holds that Restore answers an error, and no value.
func refused(t testing.TB, payload string, th api.Thresholds, want api.Errno) {
	t.Helper()
	if v, e := restored(t, payload, th); e != want || v != nil {
		t.Errorf("Restore(%s): error %d; want %d", short(payload), e, want)
	}
}

// TestDU1Payload: of a value of each kind in each encoding the type, the bytes, the version with its lower byte first, and the sum of all ahead of it.
func TestDU1Payload(t *testing.T) {
	for _, s := range samples() {
		got, e := Payload(s.v, false)
		want := summed(string([]byte{byte(s.typ)}) + s.body + "\x0b\x00")
		if got != want || e != api.OK {
			t.Errorf("%s: %q, error %d; want %q", s.name, got, e, want)
		}
		if refSum(got) != 0 || refSum(got[:len(got)-8]) == 0 {
			t.Errorf("%s: the sum with its bytes behind it is %x", s.name, refSum(got))
		}
		again, e := Payload(s.v, true)
		if typ, body, _ := codec.Encode(s.v, true); again != payloadOf(typ, body) || e != api.OK {
			t.Errorf("%s, packed: %q, error %d", s.name, again, e)
		}
		if long := len(s.body) > 100; long != (len(again) < len(got)) {
			t.Errorf("%s: %d bytes packed, %d not", s.name, len(again), len(got))
		}
	}
	if Version != 11 {
		t.Errorf("Version = %d", Version)
	}
	m := mix(2)
	for range 3000 {
		v, compress := grown(&m, of(&m, kinds...), of(&m, several...)), m.below(2) == 0
		got, e := Payload(v, compress)
		if want, wantErr := refPayload(v, compress); got != want || e != wantErr {
			t.Fatalf("kind %d: %s, error %d; want %s", v.Kind(), short(got), e, short(want))
		}
	}
}

// TestDU1Bytes: the payloads of some values, byte by byte.
func TestDU1Bytes(t *testing.T) {
	for _, c := range []struct {
		v    *value.Value
		want string
	}{
		{made(api.KindString, middle, "12"), "\x00\xc0\x0c\x0b\x00\x55\xf5\x45\x22\xa1\x9b\x55\x5c"},
		{made(api.KindString, middle, ""), "\x00\x00\x0b\x00\x34\x44\xe1\x33\xf2\xe0\x4b\x53"},
		{made(api.KindSet, least, "b", "a"), "\x02\x02\x01a\x01b\x0b\x00\x97\xbb\x9c\x56\x16\x9c\xd4\x84"},
	} {
		if got, e := Payload(c.v, true); got != c.want || e != api.OK {
			t.Errorf("%q, error %d; want %q", got, e, c.want)
		}
		if v, e := Restore(c.want, least); e != api.OK || !v.Equal(c.v) {
			t.Errorf("%q: error %d", c.want, e)
		}
	}
}

// TestDU1Unwritten: a value that can't be written has the error of layer 21, and no payload.
func TestDU1Unwritten(t *testing.T) {
	for _, compress := range []bool{false, true} {
		if s, e := Payload(nil, compress); s != "" || e != api.ErrArg {
			t.Errorf("none: %q, error %d", s, e)
		}
		for _, th := range several {
			for _, kind := range kinds[1:] {
				if s, e := Payload(made(kind, th), compress); s != "" || e != api.ErrValue {
					t.Errorf("kind %d, empty: %q, error %d", kind, s, e)
				}
			}
			if s, e := Payload(made(api.KindString, th), compress); s != payloadOf(0, "\x00") || e != api.OK {
				t.Errorf("the empty text: %q, error %d", s, e)
			}
			v := made(api.KindSet, th, "a", "b", "c", "d", "e")
			v.Drop("a", "b", "c", "d", "e")
			if s, e := Payload(v, compress); s != "" || e != api.ErrValue {
				t.Errorf("an emptied set: %q, error %d", s, e)
			}
		}
	}
}

// badThresholds are some that may not be.
func badThresholds() []api.Thresholds {
	var list []api.Thresholds
	for _, n := range []int{-1, math.MinInt, 4097, api.MaxCount + 1, math.MaxInt} {
		for i := range 9 {
			th := middle
			fields := []*int{&th.ListEntries, &th.ListBytes, &th.SetInts, &th.SetEntries, &th.SetBytes, &th.ZsetEntries, &th.ZsetBytes, &th.HashEntries, &th.HashBytes}
			if *fields[i] = n; n != 4097 || fields[i] != &th.SetInts {
				list = append(list, th)
			}
		}
	}
	return append(list, api.Thresholds{})
}

// TestDU1Thresholds: thresholds that may not be are told ahead of all that is wrong with a payload.
func TestDU1Thresholds(t *testing.T) {
	payloads := []string{"", "x", payloadOf(0, "\x01a"), payloadOf(0, "\x01a")[1:], payloadOf(1, ""), versioned(0, "\x00", 12, 0), payloadOf(0, "\x00") + "x"}
	for _, s := range samples() {
		payloads = append(payloads, payloadOf(s.typ, s.body))
	}
	for _, th := range badThresholds() {
		for _, payload := range payloads {
			refused(t, payload, th, api.ErrArg)
		}
	}
}

// TestDU1Short: fewer than 11 bytes are no payload, whatever they are; with 11 there may be one.
func TestDU1Short(t *testing.T) {
	whole := payloadOf(0, "\x00")
	for n := range 11 {
		refused(t, whole[:n], middle, api.ErrPayload)
		refused(t, whole[len(whole)-n:], middle, api.ErrPayload)
		refused(t, strings.Repeat("\x00", n), middle, api.ErrPayload)
		refused(t, strings.Repeat("\xff", n), middle, api.ErrPayload)
		if n >= 8 {
			refused(t, summed(strings.Repeat("\x00", n-8)), middle, api.ErrPayload)
			refused(t, summed("\x0b\x00"[:n-8]), middle, api.ErrPayload)
			refused(t, summed("\x00\x0b"[:n-8]), middle, api.ErrPayload)
		}
	}
	for typ, e := range map[int]api.Errno{0: api.ErrShort, 2: api.ErrShort, 18: api.ErrShort, 20: api.ErrShort, 1: api.ErrOpcode, 11: api.ErrShort, 255: api.ErrOpcode} {
		if s := payloadOf(typ, ""); len(s) != 11 {
			t.Errorf("%d bytes", len(s))
		}
		refused(t, payloadOf(typ, ""), middle, e)
	}
	refused(t, strings.Repeat("\x00", 11), middle, api.ErrShort)
}

// TestDU1Version: version 11 and those below are taken, those above are not, in either byte.
func TestDU1Version(t *testing.T) {
	for low := range 256 {
		for high := range 256 {
			payload := versioned(0, "\x01a", byte(low), byte(high))
			want := api.ErrPayload
			if high == 0 && low <= 11 {
				want = api.OK
			}
			v, e := Restore(payload, middle)
			if e != want || (v == nil) != (e != api.OK) {
				t.Fatalf("version %d, %d: error %d; want %d", low, high, e, want)
			}
		}
	}
	for _, s := range samples() {
		for version := range 14 {
			payload := versioned(s.typ, s.body, byte(version), 0)
			if version > 11 {
				refused(t, payload, middle, api.ErrPayload)
				continue
			}
			if v, e := restored(t, payload, middle); e != api.OK || !v.Equal(s.v) {
				t.Errorf("%s, version %d: error %d", s.name, version, e)
			}
		}
		refused(t, versioned(s.typ, s.body, 0, 11), middle, api.ErrPayload)
		refused(t, versioned(s.typ, s.body, 0, 1), middle, api.ErrPayload)
		refused(t, versioned(s.typ, s.body, 11, 128), middle, api.ErrPayload)
	}
}

// TestDU1Sum: another sum than that of what stands ahead of it is refused: one bit off, the bytes turned round, none, that of less.
func TestDU1Sum(t *testing.T) {
	for _, s := range samples() {
		whole := payloadOf(s.typ, s.body)
		ahead, sum := whole[:len(whole)-8], []byte(whole[len(whole)-8:])
		for i := range 64 {
			sum[i/8] ^= 1 << (i % 8)
			refused(t, ahead+string(sum), middle, api.ErrPayload)
			sum[i/8] ^= 1 << (i % 8)
		}
		slices.Reverse(sum)
		refused(t, ahead+string(sum), middle, api.ErrPayload)
		refused(t, ahead+strings.Repeat("\x00", 8), middle, api.ErrPayload)
		refused(t, ahead, middle, api.ErrPayload)
		if s.typ > 0 { // a 0 ahead of all makes no other sum
			refused(t, ahead+summed(ahead[1:])[len(ahead)-1:], middle, api.ErrPayload)
		}
		refused(t, ahead+summed(ahead[:len(ahead)-2])[len(ahead)-2:], middle, api.ErrPayload)
		refused(t, whole+"x", middle, api.ErrPayload)
		refused(t, "x"+whole, middle, api.ErrPayload)
	}
}

// TestDU1Wrong: a right sum over a type that is none, or bytes that are none of the value, has the error of layer 21.
func TestDU1Wrong(t *testing.T) {
	for _, w := range wrongs() {
		refused(t, w.payload, middle, w.e)
		refused(t, w.payload, most, w.e)
	}
	for typ := range 256 {
		known := slices.Contains([]int{0, 2, 3, 4, 11, 16, 17, 18, 20}, typ)
		for _, body := range []string{"", "\x00", "\x01a"} {
			if _, e := restored(t, payloadOf(typ, body), middle); known == (e == api.ErrOpcode) {
				t.Errorf("type %d: error %d", typ, e)
			}
		}
	}
	for _, s := range samples() {
		for n := range len(s.body) {
			if _, e := restored(t, payloadOf(s.typ, s.body[:n]), middle); e == api.OK || e == api.ErrPayload {
				t.Errorf("%s, %d bytes: error %d", s.name, n, e)
			}
		}
		for b := range 256 {
			refused(t, payloadOf(s.typ, s.body+string([]byte{byte(b)})), middle, api.ErrValue)
		}
	}
}

// TestDU1Order: of two faults the one that the chapter names first.
func TestDU1Order(t *testing.T) {
	bad := api.Thresholds{}
	for _, w := range wrongs() {
		typ, body := int(w.payload[0]), w.payload[1:len(w.payload)-10]
		refused(t, w.payload, bad, api.ErrArg)
		refused(t, versioned(typ, body, 12, 0), middle, api.ErrPayload)
		refused(t, versioned(typ, body, 0, 1), middle, api.ErrPayload)
		refused(t, w.payload[:len(w.payload)-1]+"!", middle, api.ErrPayload)
		refused(t, versioned(typ, body, 12, 0)+"!", middle, api.ErrPayload)
		refused(t, versioned(typ, body, 10, 0), middle, w.e)
	}
	refused(t, payloadOf(0, "\x00")[:10], bad, api.ErrArg)
	refused(t, versioned(0, "\x00", 12, 0), bad, api.ErrArg)
}

// TestDU1Others: what was written with other thresholds is taken, and is kept as these ones say.
func TestDU1Others(t *testing.T) {
	for _, c := range []struct {
		v        *value.Value
		th       api.Thresholds
		encoding string
	}{
		{made(3, most, "b", "a", "c"), least, "hashtable"},
		{made(3, most, "2", "1"), least, "hashtable"},
		{made(3, most, "9", "8", "7", "6", "5"), middle, "hashtable"},
		{made(3, least, "b", "a"), most, "hashtable"},
		{made(4, most, "a", "1"), least, "skiplist"},
		{made(4, least, "a", "1"), most, "skiplist"},
		{made(5, most, "a", "1"), least, "hashtable"},
		{made(5, least, "a", "1"), most, "hashtable"},
		{made(2, most, "a", "b"), least, "quicklist"},
		{made(2, least, "a", "b"), most, "quicklist"},
		{made(1, most, "12"), least, "int"},
	} {
		payload, e := Payload(c.v, true)
		if e != api.OK {
			t.Fatalf("error %d", e)
		}
		v, e := restored(t, payload, c.th)
		if e != api.OK || v.Encoding() != c.encoding || !v.Equal(c.v) || !c.v.Equal(v) {
			t.Errorf("kind %d, %s: error %d, %s; want %s", c.v.Kind(), c.v.Encoding(), e, v.Encoding(), c.encoding)
		}
	}
}
