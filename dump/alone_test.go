package dump

import (
	"slices"
	"strings"
	"sync"
	"testing"
	"unsafe"

	"cistern/api"
	"cistern/keyspace"
	"cistern/value"
)

// own is a text whose bytes the test can change behind the program's back.
func own(s string) (string, []byte) {
	b := []byte(s)
	if len(b) == 0 {
		return "", b
	}
	return unsafe.String(&b[0], len(b)), b
}

// shares tells whether two texts lie in the same memory.
func shares(a, b string) bool {
	if a == "" || b == "" {
		return false
	}
	from, other := uintptr(unsafe.Pointer(unsafe.StringData(a))), uintptr(unsafe.Pointer(unsafe.StringData(b)))
	return from < other+uintptr(len(b)) && other < from+uintptr(len(a))
}

// TestP2Payload: a value stays as it is, and its payload is not changed with it; another call answers a text of its own.
func TestP2Payload(t *testing.T) {
	m := mix(14)
	for i := range 2000 {
		v := grown(&m, kinds[i%5], of(&m, several...))
		twin := v.Clone()
		payload, _ := Payload(v, i%2 == 0)
		again, _ := Payload(v, i%2 == 0)
		if !alike(v, twin) || shares(payload, again) || payload != again {
			t.Fatalf("kind %d: the value is changed, or a payload is shared", v.Kind())
		}
		kept := strings.Clone(payload)
		change(&m, v)
		if payload != kept {
			t.Fatalf("kind %d: the payload changes with the value", v.Kind())
		}
		if last, _ := Payload(twin, i%2 == 0); last != kept {
			t.Fatalf("kind %d: a clone has another payload", v.Kind())
		}
	}
}

// TestP2Restore: a payload stays as it is, and the value does not hang on it later, nor on another value of it.
func TestP2Restore(t *testing.T) {
	m := mix(15)
	for _, payload := range sound(&m, 1500) {
		th := of(&m, several...)
		want, _ := Restore(payload, th)
		s, bytes := own(payload)
		v, e := Restore(s, th)
		if string(bytes) != payload || e != api.OK {
			t.Fatalf("%s: the payload is changed, or refused: %d", short(payload), e)
		}
		for i := range bytes {
			bytes[i] ^= 0x55
		}
		if !alike(v, want) {
			t.Fatalf("%s: the value hangs on bytes that were changed later", short(payload))
		}
		seed := m
		change(&m, v)
		if twin, _ := Restore(payload, th); !alike(twin, want) {
			t.Fatalf("%s: another value", short(payload))
		}
		change(&seed, want)
		if !alike(v, want) {
			t.Fatalf("%s: unlike behind a change", short(payload))
		}
	}
}

// TestP2Words: what the words' memory holds later is not seen, neither in the space nor in what was told; words and their spare room stay.
func TestP2Words(t *testing.T) {
	m := mix(16)
	for _, th := range several {
		one, other := newSpace(th, true), newSpace(th, true)
		for range 1500 {
			words := likely(&m, one)
			var memory [][]byte
			room := make([]string, 0, len(words)+2)
			for _, word := range words {
				s, b := own(word)
				memory = append(memory, b)
				room = append(room, s)
			}
			room = append(room, "spare", "room")
			kept := slices.Clone(room)
			got := Do(one, 0, room[:len(words)])
			if !slices.Equal(room, kept) || !slices.Equal(room[:len(words)], words) {
				t.Fatalf("%q has become %q", words, room)
			}
			for _, b := range memory {
				for i := range b {
					b[i] = '#'
				}
			}
			want := Do(other, 0, words)
			if !same(got, want) {
				t.Fatalf("%s: %s; want %s", line(words), told(got), told(want))
			}
			sameKeys(t, one, other)
		}
	}
}

// sameKeys holds all that can be seen of the keys of database 0 of two spaces against each other.
func sameKeys(t testing.TB, one, other *keyspace.Space) {
	t.Helper()
	if !slices.Equal(one.Keys(0), other.Keys(0)) {
		t.Fatalf("%q; want %q", one.Keys(0), other.Keys(0))
	}
	for _, key := range other.Keys(0) {
		if a, b := seenIn(one, 0, key), seenIn(other, 0, key); a != b {
			t.Fatalf("%q is %v; want %v", key, a, b)
		}
	}
}

// TestP2Told: what is told is the caller's: it lies in no memory of a word, of another answer, or of the space.
func TestP2Told(t *testing.T) {
	p := begun(t)
	key, payload := strings.Clone("str"), strings.Clone(aText)
	for _, words := range [][]string{{"DUMP", key}, {"RESTORE", "new", "0", payload}, {"RESTORE", key, "0", payload}, {"RESTORE", "x", "0", payload, "BOGUS"}} {
		r := Do(p.sp.Clone(), 0, words)
		again := Do(p.sp.Clone(), 0, words)
		for _, word := range words {
			if shares(r.Text, word) {
				t.Errorf("%s: the answer shares memory with a word", line(words))
			}
		}
		if shares(r.Text, again.Text) {
			t.Errorf("%s: two answers share memory", line(words))
		}
	}
	r := Do(p.sp, 0, []string{"DUMP", "list"})
	kept := strings.Clone(r.Text)
	v, _ := p.sp.Peek(0, "list")
	v.SetAt(0, "another entry")
	v.Push(true, "more")
	if r.Text != kept {
		t.Error("what was told changes with the value")
	}
}

// TestP2Apart: of keys that were RESTOREd of one payload each has a value of its own.
func TestP2Apart(t *testing.T) {
	for _, s := range samples() {
		sp := newSpace(middle, false)
		for _, key := range []string{"a", "b"} {
			Do(sp, 0, []string{"RESTORE", key, "0", payloadOf(s.typ, s.body)})
		}
		a, _ := sp.Peek(0, "a")
		b, _ := sp.Peek(0, "b")
		m := mix(17)
		for range 5 {
			change(&m, a)
		}
		if a == b || !b.Equal(s.v) {
			t.Errorf("%s: one value under two keys", s.name)
		}
	}
}

// TestP2AtOnce: calls from several goroutines answer as calls one by one.
func TestP2AtOnce(t *testing.T) {
	m := mix(18)
	list := sound(&m, 200)
	values := make([]*value.Value, len(list))
	for i, s := range list {
		values[i], _ = Restore(s, middle)
	}
	run := func() string {
		m := mix(19)
		sp := newSpace(middle, true)
		var b strings.Builder
		for range 500 {
			b.WriteString(told(Do(sp, 0, likely(&m, sp))) + "\n")
		}
		return b.String()
	}
	want := run()
	var group sync.WaitGroup
	for range 6 {
		group.Go(func() {
			if run() != want {
				t.Error("other answers")
			}
			for i, s := range list {
				v, e := Restore(s, middle)
				if e != api.OK || !alike(v, values[i]) {
					t.Errorf("%s: another value", short(s))
				}
				a, _ := Payload(v, true)
				if b, _ := Payload(values[i], true); a != b {
					t.Errorf("%s: another payload", short(s))
				}
			}
		})
	}
	group.Wait()
}
