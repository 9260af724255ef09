package command

import (
	"math"
	"testing"

	"cistern/api"
	"cistern/keyspace"
)

// at is a call of a space whose clock stands at a time.
func at(t *testing.T, now int) *Call {
	t.Helper()
	sp, e := keyspace.New(api.Config{Spaces: 1, Limits: api.Thresholds{ListEntries: 1}})
	if e != api.OK {
		t.Fatal(e)
	}
	if _, e := sp.Advance(now); e != api.OK {
		t.Fatal(e)
	}
	return &Call{Space: sp, Name: "wait"}
}

// TestDue: times in both units, from now on and from the beginning on, at both bounds and one beyond each.
func TestDue(t *testing.T) {
	const most, seconds = api.MaxNumber, api.MaxNumber / Second
	for _, c := range []struct {
		now, n, unit int
		fromNow      bool
		want         int
		ok           bool
	}{
		{5000, 3, Second, true, 8000, true}, {5000, 3, Millisecond, true, 5003, true}, {5000, 3, Second, false, 3000, true}, {5000, 3, Millisecond, false, 3, true}, {5000, 0, Second, true, 5000, true}, {5000, 0, Millisecond, false, 0, true}, {5000, -7, Second, true, -2000, true}, {5000, -7, Millisecond, false, -7, true},
		{0, most, Millisecond, false, most, true}, {0, most + 1, Millisecond, false, 0, false}, {0, -most, Millisecond, false, -most, true}, {0, -most - 1, Millisecond, false, 0, false},
		{0, seconds, Second, false, seconds * 1000, true}, {0, seconds + 1, Second, false, 0, false}, {0, -seconds, Second, false, -seconds * 1000, true}, {0, -seconds - 1, Second, false, 0, false},
		{10, most - 10, Millisecond, true, most, true}, {10, most - 9, Millisecond, true, 0, false}, {10, -most, Millisecond, true, 10 - most, true}, {10, -most - 1, Millisecond, true, 0, false},
		{991, seconds, Second, true, most, true}, {992, seconds, Second, true, 0, false}, {5000, -seconds, Second, true, 5000 - seconds*1000, true}, {5000, -seconds - 1, Second, true, 0, false},
		{most, 0, Second, true, most, true}, {most, 1, Millisecond, true, 0, false}, {most, 1, Second, true, 0, false}, {most, 1, Second, false, 1000, true},
		{0, math.MaxInt, Second, true, 0, false}, {0, math.MinInt, Second, true, 0, false}, {0, math.MaxInt, Millisecond, false, 0, false}, {0, math.MinInt, Millisecond, false, 0, false},
	} {
		want := ""
		if !c.ok {
			want = "ERR invalid expire time in 'wait' command"
		}
		got, err := at(t, c.now).Due(c.n, c.unit, c.fromNow)
		if got != c.want || told(err) != want {
			t.Errorf("Due(%d, %d, %v) at %d = %d, %v; want %d, %q", c.n, c.unit, c.fromNow, c.now, got, err, c.want, want)
		}
	}
}
