package dump

import (
	"fmt"
	"strings"
	"testing"
)

// TestDU2Order: of two checks of RESTORE that fail the one is told that the row names first, for each pair of them and for all at once.
func TestDU2Order(t *testing.T) {
	long := strings.Repeat("k", maxKey+1)
	type step struct {
		want  string
		spoil func(key, ttl, payload *string, options *[]string)
	}
	steps := []step{
		{syntax, func(_, _, _ *string, options *[]string) { *options = append(*options, "BOGUS") }},
		{badIdle, func(_, _, _ *string, options *[]string) { *options = append(*options, "IDLETIME", "-1") }},
		{badFreq, func(_, _, _ *string, options *[]string) { *options = append(*options, "FREQ", "256") }},
		{noNumber, func(_, ttl, _ *string, _ *[]string) { *ttl = "x" }},
		{badTTL, func(_, ttl, _ *string, _ *[]string) { *ttl = "-1" }},
		{busy, func(key, _, _ *string, _ *[]string) { *key = "str" }},
		{badSum, func(_, _, payload *string, _ *[]string) { *payload += "x" }},
		{badFormat, func(_, _, payload *string, _ *[]string) { *payload = payloadOf(1, "") }},
		{tooLarge, func(key, _, _ *string, _ *[]string) { *key = long }},
	}
	spoils := func(i, j int) bool { // whether two can be spoilt at once
		pair := fmt.Sprint(i, j)
		return pair != "3 4" && pair != "6 7" && pair != "5 8"
	}
	for i, first := range steps {
		for j := i; j < len(steps); j++ {
			if !spoils(i, j) {
				continue
			}
			p := begun(t)
			key, ttl, payload, options := "new", "0", aText, []string(nil)
			first.spoil(&key, &ttl, &payload, &options)
			if j > i {
				steps[j].spoil(&key, &ttl, &payload, &options)
			}
			p.refuses(first.want, append([]string{"RESTORE", key, ttl, payload}, options...)...)
		}
	}
	p := begun(t)
	p.refuses(syntax, "RESTORE", "str", "x", "no payload", "FREQ", "x", "IDLETIME", "x", "BOGUS")
	p.refuses(badFreq, "RESTORE", "str", "x", "no payload", "FREQ", "x", "IDLETIME", "x")
	p.refuses(badIdle, "RESTORE", "str", "x", "no payload", "IDLETIME", "x", "FREQ", "x")
	p.refuses(noNumber, "RESTORE", "str", "x", "no payload")
	p.refuses(badTTL, "RESTORE", "str", "-1", "no payload")
	p.refuses(busy, "RESTORE", "str", "1", "no payload", "ABSTTL")
	p.refuses(badSum, "RESTORE", "str", "1", "no payload", "ABSTTL", "REPLACE")
	p.refuses(badSum, "RESTORE", long, "0", payloadOf(1, "")+"x")
	p.refuses(badFormat, "RESTORE", long, "0", payloadOf(1, ""))
	p.refuses(tooLarge, "RESTORE", long, "0", aText)
	p.want("+OK", "RESTORE", long, "1", aText, "ABSTTL")
}

// TestDU2Traces: what becomes of the expiry, the mark and the uses of all keys. The key a is a list with the mark 2 and the expiry 5000, b a string with the mark 3, c, in database 1, one with the mark 4; uses count from the last one.
func TestDU2Traces(t *testing.T) {
	const a, b, c = "a due 5000 mark 2 idle 2", "b due -1 mark 3 idle 1", "1/c due -1 mark 4 idle 0"
	join := func(parts ...string) string { return strings.Join(parts, ", ") }
	same := join(a, b, c)
	for _, k := range []struct {
		want string
		args []string
	}{
		{same, []string{"DUMP", "a"}},
		{same, []string{"DUMP", "none"}},
		{same, []string{"RESTORE", "a", "0", aText}},
		{same, []string{"RESTORE", "a", "0", aText + "x", "REPLACE"}},
		{same, []string{"RESTORE", "a", "0", payloadOf(1, ""), "REPLACE"}},
		{same, []string{"RESTORE", "a", "-1", aText, "REPLACE"}},
		{same, []string{"RESTORE", "a", "0", aText, "REPLACE", "BOGUS"}},
		{same, []string{"RESTORE", "none", "500", aText, "ABSTTL"}},
		{same, []string{"RESTORE", "none", "1000", aText, "ABSTTL", "REPLACE"}},
		{join(b, c), []string{"RESTORE", "a", "1000", aText, "ABSTTL", "REPLACE"}},
		{join(a, c), []string{"RESTORE", "b", "1", aText, "REPLACE", "ABSTTL"}},
		{join("a due -1 mark 5 idle 0", "b due -1 mark 3 idle 2", "1/c due -1 mark 4 idle 1"), []string{"RESTORE", "a", "0", aText, "REPLACE"}},
		{join("a due 1007 mark 6 idle 0", "b due -1 mark 3 idle 2", "1/c due -1 mark 4 idle 1"), []string{"RESTORE", "a", "7", aText, "REPLACE"}},
		{join("a due 1001 mark 6 idle 0", "b due -1 mark 3 idle 2", "1/c due -1 mark 4 idle 1"), []string{"RESTORE", "a", "1001", aText, "REPLACE", "ABSTTL", "IDLETIME", "77", "FREQ", "9"}},
		{join("a due 5000 mark 2 idle 3", "b due -1 mark 5 idle 0", "1/c due -1 mark 4 idle 1"), []string{"RESTORE", "b", "0", aText, "ABSTTL", "REPLACE"}},
		{join("a due 5000 mark 2 idle 3", "b due -1 mark 3 idle 2", "x due -1 mark 5 idle 0", "1/c due -1 mark 4 idle 1"), []string{"RESTORE", "x", "0", aText}},
		{join("a due 5000 mark 2 idle 3", "b due -1 mark 3 idle 2", "x due 2000 mark 6 idle 0", "1/c due -1 mark 4 idle 1"), []string{"RESTORE", "x", "1000", aText, "REPLACE"}},
	} {
		p := newTrial(t, middle, false)
		p.advance(1000)
		p.give(0, "a", made(2, middle, "2", "1"))
		p.expire(0, "a", 5000)
		p.give(0, "b", made(1, middle, "x"))
		p.give(1, "c", made(1, middle, "x"))
		p.ask(k.args...)
		var got []string
		for db := range databases {
			for _, key := range p.sp.Keys(db) {
				s := seenIn(p.sp, db, key)
				place := ""
				if db > 0 {
					place = fmt.Sprint(db, "/")
				}
				got = append(got, fmt.Sprintf("%s%s due %d mark %d idle %d", place, key, s.due, s.mark, s.idle))
			}
		}
		if join(got...) != k.want {
			t.Errorf("%s: %s; want %s", line(k.args), join(got...), k.want)
		}
	}
}
