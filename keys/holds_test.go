package keys

import (
	"fmt"
	"testing"
)

// TestKY2Time: a key that EXPIRE gave N seconds has a TTL of N till the clock goes on, and is gone when 1000 N have gone by, not sooner.
func TestKY2Time(t *testing.T) {
	for _, now := range []int{0, 1, 499, 500, 501, 999, 123456789} {
		for _, n := range []int{1, 2, 3, 10, 60, 3600, 1 << 40} {
			for _, kind := range kinds {
				p := newTrial(t, someLimits())
				p.advance(now)
				p.give(0, "k", kind, "1", "2")
				p.want(fmt.Sprint("EXPIRE k ", n), ":1")
				p.want("TTL k", fmt.Sprint(":", n))
				p.want("PTTL k", fmt.Sprint(":", 1000*n))
				p.want("TTL k", fmt.Sprint(":", n))
				p.advance(1000*n - 1)
				p.want("EXISTS k", ":1")
				p.want("PTTL k", ":1")
				p.advance(1)
				p.want("EXISTS k", ":0")
				p.want("TTL k", ":-2")
			}
		}
	}
}

// TestKY2Keep: RENAME and COPY keep what is held and the expiry, one after the other, through keys and databases.
func TestKY2Keep(t *testing.T) {
	m := mix(3)
	for range 200 {
		p := newTrial(t, pick(&m, allLimits()...))
		var members []string
		for range 1 + m.below(9) {
			members = append(members, pick(&m, fmt.Sprint(m.below(50)), "a long member of it", fmt.Sprint("m", m.below(9))))
		}
		p.give(0, "k0", kinds[m.below(5)], members...)
		if m.below(3) > 0 {
			p.expire(0, "k0", 1+m.below(100_000))
		}
		was := without(seenIn(p.sp, 0, "k0"))
		v, _ := p.sp.Peek(0, "k0")
		first := v.Clone()
		db, key := 0, "k0"
		for i := range 10 {
			to := fmt.Sprint("k", 1+i)
			switch m.below(3) {
			case 0:
				p.wantIn(db, "RENAME "+key+" "+to, "+OK")
				key = to
			case 1:
				p.wantIn(db, "COPY "+key+" "+to, ":1")
				key = pick(&m, key, to)
			case 2:
				into := (db + 1) % databases
				p.wantIn(db, fmt.Sprint("COPY ", key, " ", to, " DB ", into), ":1")
				db, key = into, to
			}
			if got := without(seenIn(p.sp, db, key)); got != was {
				t.Fatalf("%s has become %s", was, got)
			}
		}
		if v, _ := p.sp.Peek(db, key); !v.Equal(first) {
			t.Fatalf("%s holds another thing", key)
		}
	}
}
