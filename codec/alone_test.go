package codec

import (
	"strings"
	"sync"
	"testing"
	"unsafe"

	"cistern/api"
	"cistern/value"
)

// own is a text whose bytes the test can change behind the program's back.
func own(s string) (string, []byte) {
	b := []byte(s)
	if len(b) == 0 {
		return "", b
	}
	return unsafe.String(&b[0], len(b)), b
}

// shares tells whether two texts lie in the same memory.
func shares(a, b string) bool {
	if a == "" || b == "" {
		return false
	}
	from, other := uintptr(unsafe.Pointer(unsafe.StringData(a))), uintptr(unsafe.Pointer(unsafe.StringData(b)))
	return from < other+uintptr(len(b)) && other < from+uintptr(len(a))
}

// TestTextAlone: bytes that are handed in stay as they are, and what is answered is its caller's.
func TestTextAlone(t *testing.T) {
	for _, s := range someTexts() {
		for _, compress := range []bool{false, true} {
			in, bytes := own(s)
			p := PutText(in, compress)
			if string(bytes) != s || shares(p, in) {
				t.Fatalf("PutText(%s): the text is changed, or shared", short(s))
			}
			if PutText(s, compress) != p {
				t.Fatalf("PutText(%s): another answer", short(s))
			}
			from, bytes := own(p + "behind")
			got, n, e := Text(from)
			if string(bytes) != p+"behind" || shares(got, from) {
				t.Fatalf("Text(%s): the bytes are changed, or shared", short(p))
			}
			clear(bytes)
			if got != s || n != len(p) || e != api.OK {
				t.Fatalf("Text(%s) hangs on bytes that were changed later", short(p))
			}
		}
	}
}

// TestEncodeAlone: a value stays as it is, and what is answered is not changed with it.
func TestEncodeAlone(t *testing.T) {
	m := mix(31)
	for i := range 2000 {
		kind, th := kinds[i%len(kinds)], several[m.below(len(several))]
		v := grown(&m, kind, th)
		twin := v.Clone()
		typ, body, e := Encode(v, i%2 == 0)
		kept := strings.Clone(body)
		if !same(v, twin) {
			t.Fatalf("kind %d: Encode has changed the value", kind)
		}
		change(&m, v, kind)
		if body != kept {
			t.Fatalf("kind %d: the bytes change with the value", kind)
		}
		if again, same, err := Encode(twin, i%2 == 0); again != typ || same != body || err != e {
			t.Fatalf("kind %d: a clone is written otherwise", kind)
		}
	}
}

// TestDecodeAlone: the bytes stay as they are, and the value does not hang on them later.
func TestDecodeAlone(t *testing.T) {
	m := mix(32)
	for _, w := range bodies(&m, 1500) {
		th := several[m.below(len(several))]
		want, wantErr := Decode(w.typ, w.body, th)
		s, bytes := own(w.body)
		v, e := Decode(w.typ, s, th)
		Size(w.typ, s)
		Checked(w.typ, s)
		if string(bytes) != w.body {
			t.Fatalf("type %d: the bytes were changed", w.typ)
		}
		for i := range bytes {
			bytes[i] ^= 0x55
		}
		if e != wantErr || !same(v, want) {
			t.Fatalf("type %d: the value hangs on bytes that were changed later", w.typ)
		}
		seed := m
		change(&m, v, v.Kind())
		change(&seed, want, want.Kind())
		if !same(v, want) {
			t.Fatalf("type %d: unlike behind a change", w.typ)
		}
	}
}

// TestAtOnce: calls from several goroutines answer as calls one by one.
func TestAtOnce(t *testing.T) {
	m := mix(33)
	all := bodies(&m, 200)
	values := make([]*value.Value, len(all))
	for i, w := range all {
		values[i], _ = Decode(w.typ, w.body, middle)
	}
	var group sync.WaitGroup
	for range 4 {
		group.Go(func() {
			for i, w := range all {
				v, e := Decode(w.typ, w.body, middle)
				if e != api.OK || !same(v, values[i]) || Checked(w.typ, w.body) != api.OK {
					t.Errorf("type %d: another answer", w.typ)
				}
				if typ, _, e := Encode(v, true); e != api.OK || Kind(typ) != v.Kind() {
					t.Errorf("type %d: %d, %d", w.typ, typ, e)
				}
			}
		})
	}
	group.Wait()
}
