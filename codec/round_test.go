package codec

import (
	"fmt"
	"slices"
	"strings"
	"testing"

	"cistern/api"
	"cistern/value"
)

// written is what Encode answers of values of one kind, encoding and Raw.
type written struct {
	typ  int
	body string
}

// checkRound: there and back, with the same thresholds and with others.
func checkRound(t *testing.T, v *value.Value, th api.Thresholds, compress bool) written {
	t.Helper()
	typ, body, e := Encode(v, compress)
	if e != api.OK {
		t.Fatalf("kind %d, %s, %.200q: error %d", v.Kind(), v.Encoding(), v.Raw(), e)
	}
	if n, e := Size(typ, body+"\x00"); n != len(body) || e != api.OK {
		t.Fatalf("kind %d, %s: Size %d, %d; want %d", v.Kind(), v.Encoding(), n, e, len(body))
	}
	w, e := Decode(typ, body, th)
	if e != api.OK || !same(v, w) {
		t.Fatalf("kind %d, %s, %.200q: not back: %d", v.Kind(), v.Encoding(), v.Raw(), e)
	}
	again, same, e := Encode(w, compress)
	if again != typ || same != body || e != api.OK {
		t.Fatalf("kind %d, %s, %.200q: other bytes behind Decode: %d, %d", v.Kind(), v.Encoding(), v.Raw(), again, e)
	}
	if e := Checked(typ, body); e != api.OK {
		t.Fatalf("kind %d, %s: Checked %d", v.Kind(), v.Encoding(), e)
	}
	return written{typ, body}
}

// TestRound: CO5 over many values: of each kind, in each encoding, with all thresholds, with and without compress.
func TestRound(t *testing.T) {
	m := mix(3)
	encodings := map[string]int{}
	for i := range 12000 {
		kind, th := kinds[i%len(kinds)], several[m.below(len(several))]
		v := grown(&m, kind, th)
		if isBare(v) {
			continue
		}
		encodings[fmt.Sprint(kind, v.Encoding())]++
		for _, compress := range []bool{false, true} {
			w := checkRound(t, v, th, compress)
			other := several[m.below(len(several))]
			got, e := Decode(w.typ, w.body, other)
			if e != api.OK || !got.Equal(v) || !v.Equal(got) {
				t.Fatalf("kind %d, %s, with other thresholds: %d", kind, v.Encoding(), e)
			}
			if _, _, e := Encode(got, compress); e != api.OK {
				t.Fatalf("kind %d, %s, written again with other thresholds: %d", kind, got.Encoding(), e)
			}
		}
	}
	for _, name := range []string{"1int", "1embstr", "1raw", "2listpack", "2quicklist", "3intset", "3listpack", "3hashtable", "4listpack", "4skiplist", "5listpack", "5hashtable"} {
		if n := encodings[name]; n < 50 {
			t.Errorf("kind %s: %d of them alone", name, n)
		}
	}
}

// TestWrittenByRaw: what Encode writes hangs on kind, encoding, Raw and compress alone: not on thresholds, nor on how the value came to be.
func TestWrittenByRaw(t *testing.T) {
	m := mix(9)
	known := map[string]written{}
	met := 0
	note := func(v *value.Value) {
		for _, compress := range []bool{false, true} {
			typ, body, e := Encode(v, compress)
			if e != api.OK {
				t.Fatalf("error %d", e)
			}
			key := fmt.Sprintf("%d %s %t %q", v.Kind(), v.Encoding(), compress, v.Raw())
			if old, ok := known[key]; !ok {
				known[key] = written{typ, body}
			} else if met++; old != (written{typ, body}) {
				t.Fatalf("%.200s: %d, %.100q; once %d, %.100q", key, typ, body, old.typ, old.body)
			}
		}
	}
	for i := range 2000 {
		v := grown(&m, kinds[i%len(kinds)], several[m.below(len(several))])
		if isBare(v) {
			continue
		}
		note(v)
		note(v.Clone())
		for _, th := range several {
			if w, e := value.Load(v.Kind(), v.Encoding(), v.Raw(), th); e == api.OK {
				note(w)
			}
		}
	}
	if met < 5000 {
		t.Errorf("%d alike alone", met)
	}
}

// TestWrittenInAnyOrder: an expanded value is written alike, in whatever order its elements joined.
func TestWrittenInAnyOrder(t *testing.T) {
	names := counted(50, 9)
	turned := slices.Clone(names)
	slices.Reverse(turned)
	for _, make := range []func(names []string) *value.Value{
		func(names []string) *value.Value { return setValue(least, names...) },
		func(names []string) *value.Value { return hashValue(least, doubled(names)...) },
		func(names []string) *value.Value { return zsetValue(least, scoredAlike(names)...) },
		func(names []string) *value.Value { return zsetValue(most, scoredAlike(names)...) },
	} {
		typ, body, _ := Encode(make(names), true)
		if other, again, e := Encode(make(turned), true); other != typ || again != body || e != api.OK {
			t.Errorf("type %d: other bytes", typ)
		}
	}
	typ, body, _ := Encode(setValue(most, names...), true)
	if other, again, _ := Encode(setValue(most, turned...), true); typ != 20 || other != 20 || again == body {
		t.Error("a listpack has its members in the order in which they joined")
	}
}

func doubled(names []string) []string {
	var entries []string
	for _, s := range names {
		entries = append(entries, s, s)
	}
	return entries
}

func scoredAlike(names []string) []string {
	var entries []string
	for _, s := range names {
		entries = append(entries, s, "7")
	}
	return entries
}

// TestWideIntset: an intset that is wider than its numbers need is written and read as it is.
func TestWideIntset(t *testing.T) {
	v := setValue(middle, "1", "2", "9223372036854775807")
	v.Drop("9223372036854775807")
	w := checkRound(t, v, middle, false)
	if w.typ != 11 || w.body != "\x18\x08\x00\x00\x00\x02\x00\x00\x00\x01\x00\x00\x00\x00\x00\x00\x00\x02\x00\x00\x00\x00\x00\x00\x00" {
		t.Errorf("%d, %q", w.typ, w.body)
	}
}

// TestEncodingBack: which encoding a compact value has with thresholds that do not let it be so.
func TestEncodingBack(t *testing.T) {
	long := strings.Repeat("l", 9)
	cases := []struct {
		v    *value.Value
		th   api.Thresholds
		want string
	}{
		{setValue(most, "1", "2", "3"), api.Thresholds{ListEntries: 1, SetInts: 2, SetEntries: 3, SetBytes: 1}, "listpack"},
		{setValue(most, "1", "2", "3"), api.Thresholds{ListEntries: 1, SetInts: 2, SetEntries: 2, SetBytes: 1}, "hashtable"},
		{setValue(most, "a", "b"), least, "hashtable"},
		{setValue(most, "a", long), middle, "hashtable"},
		{hashValue(most, "a", long), middle, "hashtable"},
		{hashValue(most, "a", "b"), least, "hashtable"},
		{zsetValue(most, "a", "1"), least, "skiplist"},
		{zsetValue(most, long, "1"), middle, "skiplist"},
		{setValue(least, "1", "2"), most, "hashtable"},
		{hashValue(least, "a", "b"), most, "hashtable"},
		{zsetValue(least, "a", "1"), most, "skiplist"},
		{listValue(least, "a", "b"), most, "quicklist"},
		{listValue(most, "a", "b"), least, "quicklist"},
	}
	for i, c := range cases {
		typ, body, _ := Encode(c.v, true)
		if w, e := Decode(typ, body, c.th); e != api.OK || w.Encoding() != c.want || !w.Equal(c.v) {
			t.Errorf("%d: %d", i, e)
		}
	}
}
