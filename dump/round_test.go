package dump

import (
	"fmt"
	"strings"
	"testing"

	"cistern/api"
	"cistern/value"
)

// TestDU3Payload: Restore of Payload with the same thresholds can't be told from the value; with any others it is Equal to it.
func TestDU3Payload(t *testing.T) {
	t.Parallel()
	m := mix(3)
	for range 6000 {
		th := of(&m, several...)
		v := grown(&m, of(&m, kinds...), th)
		twin := v.Clone()
		payload, e := Payload(v, m.below(2) == 0)
		if e != api.OK {
			t.Fatalf("Payload: error %d", e)
		}
		if back, e := restored(t, payload, th); e != api.OK || !alike(back, v) {
			t.Fatalf("kind %d, %s: error %d", v.Kind(), v.Encoding(), e)
		}
		for _, other := range several {
			back, e := restored(t, payload, other)
			if e != api.OK || !back.Equal(v) || !v.Equal(back) {
				t.Fatalf("kind %d, %s: error %d with other thresholds", v.Kind(), v.Encoding(), e)
			}
			again, e := Payload(back, m.below(2) == 0)
			if last, f := restored(t, again, th); e != api.OK || f != api.OK || !last.Equal(v) {
				t.Fatalf("kind %d, %s: errors %d, %d on the way back", v.Kind(), v.Encoding(), e, f)
			}
		}
		if !alike(v, twin) {
			t.Fatalf("kind %d: Payload has changed the value", v.Kind())
		}
	}
}

// TestDU3Written: a payload hangs on the value's kind, encoding and pieces alone: Payload of what Restore made is the payload again.
func TestDU3Written(t *testing.T) {
	m := mix(4)
	for range 3000 {
		th, compress := of(&m, several...), m.below(2) == 0
		v := grown(&m, of(&m, kinds...), th)
		payload, _ := Payload(v, compress)
		back, _ := Restore(payload, th)
		if again, e := Payload(back, compress); again != payload || e != api.OK {
			t.Fatalf("%s; once %s", short(again), short(payload))
		}
	}
}

// TestDU3Commands: RESTORE of what DUMP told, under another key, in another database, in another space with other thresholds, makes an equal value; DUMP of that is RESTOREd again.
func TestDU3Commands(t *testing.T) {
	m := mix(5)
	for range 400 {
		p := newTrial(t, of(&m, several...), m.below(2) == 0)
		other := newTrial(t, of(&m, several...), m.below(2) == 0)
		for i := range 5 {
			v := grown(&m, kinds[i], of(&m, several...))
			key := fmt.Sprint("key ", i)
			p.give(0, key, v)
			payload := strings.TrimPrefix(p.ask("DUMP", key), "$")
			p.want("+OK", "RESTORE", "other "+key, "0", payload)
			p.holds(0, "other "+key, v, -1)
			p.wantIn(2, "+OK", "RESTORE", key, "50", payload)
			p.holds(2, key, v, 50)
			other.wantIn(1, "+OK", "RESTORE", key, "0", payload)
			other.holds(1, key, v, -1)
			back := strings.TrimPrefix(other.askIn(1, "DUMP", key), "$")
			p.want("+OK", "RESTORE", key, "0", back, "REPLACE")
			p.holds(0, key, v, -1)
		}
	}
}

// TestDU3Encodings: of each kind and encoding, with thresholds that let the value stay as it is, and with ones that do not.
func TestDU3Encodings(t *testing.T) {
	for _, s := range samples() {
		for _, from := range several {
			for _, compress := range []bool{false, true} {
				p := newTrial(t, from, compress)
				p.give(0, "a", s.v)
				payload := strings.TrimPrefix(p.ask("DUMP", "a"), "$")
				p.want("+OK", "RESTORE", "b", "0", payload)
				p.holds(0, "b", s.v, -1)
			}
		}
	}
}

// TestDU3Large: values as large as they may be, or with very many elements, there and back.
func TestDU3Large(t *testing.T) {
	t.Parallel()
	var entries []string
	for i := range 9000 {
		entries = append(entries, fmt.Sprint("entry ", i))
	}
	numbers := make([]string, 9000)
	for i := range numbers {
		numbers[i] = fmt.Sprint(i * 77777)
	}
	list, set, ints := mostly(api.KindList), mostly(api.KindSet), mostly(api.KindSet)
	list.Push(false, entries...)
	set.Add(entries...)
	ints.Add(numbers...)
	zset, hash := mostly(api.KindZset), mostly(api.KindHash)
	for i, entry := range entries {
		zset.ZAdd(api.Scored{Member: entry, Score: i % 99})
		hash.Put(api.Field{Name: entry, Value: entry})
	}
	noise := mix(6)
	for _, v := range []*value.Value{
		made(1, most, strings.Repeat("x", api.MaxElement)), made(1, most, noise.text(api.MaxElement, 26)), made(2, most, strings.Repeat("y", api.MaxElement), "z"),
		made(5, most, strings.Repeat("f", api.MaxElement), noise.text(api.MaxElement, 26)), list, set, ints, zset, hash,
	} {
		for _, compress := range []bool{false, true} {
			payload, e := Payload(v, compress)
			if e != api.OK {
				t.Fatalf("kind %d: error %d", v.Kind(), e)
			}
			for _, th := range []api.Thresholds{most, middle} {
				if back, e := Restore(payload, th); e != api.OK || !back.Equal(v) || th == most && !alike(back, v) {
					t.Fatalf("kind %d: error %d", v.Kind(), e)
				}
			}
		}
	}
}

// mostly is an empty value of a kind with the greatest thresholds.
func mostly(kind int) *value.Value { return made(kind, most) }
