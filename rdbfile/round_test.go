package rdbfile

import (
	"slices"
	"testing"

	"cistern/api"
	"cistern/keyspace"
)

// TestRoundImages: an image that may be is written and read as it was, compressed or not.
func TestRoundImages(t *testing.T) {
	m := mix(8)
	for _, i := range images(&m, 3000) {
		for _, compress := range []bool{false, true} {
			s := encoded(t, i, compress)
			j, n, e := Decode(s)
			if !same(i, j) || n != len(s) || e != api.OK {
				t.Fatalf("%s: %s, %d, %d", shortImage(i), shortImage(j), n, e)
			}
			if again := encoded(t, j, compress); again != s {
				t.Fatalf("%q; once %q", again, s)
			}
		}
	}
}

// sameMap holds what two spaces hold against each other: databases, keys, expiries, and values that are Equal.
func sameMap(t testing.TB, got, want *keyspace.Space) {
	t.Helper()
	if got.Now() != want.Now() || got.Config().Spaces != want.Config().Spaces {
		t.Fatalf("now %d, %d spaces", got.Now(), got.Config().Spaces)
	}
	for db := range want.Config().Spaces {
		if !slices.Equal(got.Keys(db), want.Keys(db)) {
			t.Fatalf("%q; want %q", got.Keys(db), want.Keys(db))
		}
		for _, key := range want.Keys(db) {
			a, _ := got.Expiry(db, key)
			b, _ := want.Expiry(db, key)
			v, _ := got.Peek(db, key)
			w, _ := want.Peek(db, key)
			if a != b || !v.Equal(w) || !w.Equal(v) {
				t.Fatalf("%d %q: at %d, want %d; %q, want %q", db, key, a, b, v.Raw(), w.Raw())
			}
		}
	}
}

// back writes a space and reads it again.
func back(t testing.TB, sp *keyspace.Space, compress bool, c api.Config, aux ...api.Pair) *keyspace.Space {
	t.Helper()
	s := encoded(t, snapped(t, sp, aux...), compress)
	i, n, e := Decode(s)
	if n != len(s) || e != api.OK {
		t.Fatalf("Decode: %d, %d", n, e)
	}
	if !slices.Equal(i.Aux, aux) {
		t.Fatalf("%q; want %q", i.Aux, aux)
	}
	got, e := Load(i, c, sp.Now())
	if e != api.OK {
		t.Fatalf("Load: %d", e)
	}
	sameMap(t, got, sp)
	return got
}

// TestRoundSpaces: spaces whose values are all made with the Config's thresholds are written and read as they were; their images are the same.
func TestRoundSpaces(t *testing.T) {
	m := mix(9)
	for range 600 {
		c := config(1+m.below(api.MaxSpaces), of(&m, several...))
		c.Compress = m.below(2) == 0
		sp := grownSpace(&m, c, c.Limits)
		aux := api.Pair{Name: m.word(), Value: m.word()}
		got := back(t, sp, m.below(2) == 0, c, aux)
		if i, j := snapped(t, got, aux), snapped(t, sp, aux); !same(i, j) {
			t.Fatalf("%s; once %s", shortImage(i), shortImage(j))
		}
	}
}

// TestRoundOthers: values that were made with other thresholds are Equal behind it, also with yet other thresholds; what is written again loads to the same.
func TestRoundOthers(t *testing.T) {
	m := mix(10)
	for range 600 {
		c := config(1+m.below(api.MaxSpaces), of(&m, several...))
		sp := grownSpace(&m, c, several...)
		got := back(t, sp, true, c)
		again := back(t, got, false, c)
		if i, j := snapped(t, again), snapped(t, got); !same(i, j) {
			t.Fatalf("%s; once %s", shortImage(i), shortImage(j))
		}
		other := c
		other.Limits, other.Compress = of(&m, several...), true
		back(t, back(t, sp, false, other), true, c)
		if c.Limits = of(&m, several...); sp.Adjust(c) == api.OK {
			back(t, sp, true, c)
		}
	}
}

// TestRoundLater: behind a later start just those keys are there whose time has not come.
func TestRoundLater(t *testing.T) {
	m := mix(11)
	for range 300 {
		c := config(3, middle)
		sp := grownSpace(&m, c, middle)
		s := encoded(t, snapped(t, sp), true)
		i, _, _ := Decode(s)
		n := m.below(60)
		got, e := Load(i, c, sp.Now()+n)
		if e != api.OK {
			t.Fatalf("error %d", e)
		}
		sp.Advance(n)
		sameMap(t, got, sp)
	}
}
