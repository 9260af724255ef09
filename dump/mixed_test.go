package dump

import (
	"fmt"
	"strings"
	"testing"

	"cistern/api"
	"cistern/keyspace"
)

func someKey(m *mix) string { return of(m, "a", "b", "c", "d", "e", "f", "") }

func spelt(m *mix, word string) string {
	return of(m, strings.ToLower(word), strings.ToUpper(word), mixed(word))
}

// somePayload is what DUMP tells of a key of a space, or a payload of any other sort.
func somePayload(m *mix, sp *keyspace.Space) string {
	if v, ok := sp.Peek(0, someKey(m)); ok && m.below(2) == 0 {
		if payload, e := Payload(v, m.below(2) == 0); e == api.OK {
			return payload
		}
	}
	typ, body := 0, plain(m.word())
	if m.below(2) == 0 {
		s := of(m, samples()...)
		typ, body = s.typ, s.body
	}
	switch m.below(12) {
	case 0:
		return edited(m, payloadOf(typ, body))
	case 1:
		return payloadOf(typ, edited(m, body))
	case 2:
		return versioned(typ, body, byte(m.below(14)), byte(m.below(20)/19))
	}
	return payloadOf(typ, body)
}

// likely is a line of a command that is likely to be done.
func likely(m *mix, sp *keyspace.Space) []string {
	if m.below(3) == 0 {
		return []string{spelt(m, "dump"), someKey(m)}
	}
	words := []string{spelt(m, "restore"), someKey(m), fmt.Sprint(of(m, 0, 0, m.below(300), m.below(5000), sp.Now(), sp.Now()+m.below(100), maxNumber)), somePayload(m, sp)}
	groups := [][]string{{spelt(m, "replace")}, {spelt(m, "absttl")}, {spelt(m, "idletime"), fmt.Sprint(m.below(1000))}, {spelt(m, "freq"), fmt.Sprint(m.below(256))}}
	for range m.below(4) {
		words = append(words, of(m, append(groups, groups[0], groups[0])...)...)
	}
	return words
}

// anyWord is a word that a command may have anywhere.
func anyWord(m *mix) string {
	switch m.below(7) {
	case 0, 1:
		return someKey(m)
	case 2:
		return fmt.Sprint(m.below(24) - 10)
	case 3:
		return spelt(m, of(m, "replace", "absttl", "idletime", "freq", "dump", "restore"))
	case 4:
		return of(m, append(noNumbers(), greatest, lowest, "255", "256")...)
	case 5:
		return of(m, aText, payloadOf(2, "\x01\x01a"), payloadOf(1, ""), aText+"x", aText[:10])
	}
	b := make([]byte, m.below(30))
	for i := range b {
		b[i] = of(m, byte(0), 255, 'x', '7', byte(m.below(256)))
	}
	return string(b)
}

// TestMixed: commands of both kinds, one after the other, held against the model, with thresholds of all sizes; time goes on, values come.
func TestMixed(t *testing.T) {
	for seed := range 15 {
		t.Run(fmt.Sprint(seed), func(t *testing.T) {
			t.Parallel()
			m := mix(seed + 1)
			p := newTrial(t, several[seed%5], seed%2 == 0)
			done := map[byte]int{}
			for range 1200 {
				switch m.below(20) {
				case 0:
					p.advance(m.below(400))
				case 1:
					p.give(m.below(databases), someKey(&m), grown(&m, of(&m, kinds...), of(&m, several...)))
				default:
					done[p.askIn(m.below(databases), likely(&m, p.sp)...)[0]]++
				}
			}
			for _, first := range "_+-$" {
				if done[byte(first)] < 20 {
					t.Errorf("%c was told %d times", first, done[byte(first)])
				}
			}
		})
	}
}

// TestP4: whatever is refused changes nothing.
func TestP4(t *testing.T) {
	t.Parallel()
	m := mix(20)
	refused := 0
	var p *trial
	for i := range 8000 {
		if i%100 == 0 {
			p = begun(t)
		}
		if m.below(9) == 0 {
			p.give(0, someKey(&m), grown(&m, of(&m, kinds...), middle))
		}
		words := likely(&m, p.sp)
		words[m.below(len(words))] = anyWord(&m)
		before := p.all()
		if got := p.ask(words...); strings.HasPrefix(got, "-") {
			refused++
			if p.all() != before {
				t.Fatalf("%s: %s, and changed\n%s\ninto\n%s", line(words), got, before, p.all())
			}
		}
	}
	if refused < 2000 {
		t.Errorf("only %d were refused", refused)
	}
}

// TestP1: words of any bytes in any number end with an answer, in any database.
func TestP1(t *testing.T) {
	t.Parallel()
	m := mix(21)
	var p *trial
	for i := range 10000 {
		if i%100 == 0 {
			p = begun(t)
		}
		words := make([]string, m.below(10))
		for i := range words {
			words[i] = anyWord(&m)
		}
		if len(words) > 0 && m.below(8) > 0 {
			words[0] = of(&m, "dump", "RESTORE", "restore")
		}
		p.askIn(m.below(databases+2)-1, words...)
	}
}

// TestP6: all keys of a space, told by DUMP and made again in another one by RESTORE, are the same maps with the same expiries.
func TestP6(t *testing.T) {
	m := mix(22)
	for range 200 {
		from, to := newTrial(t, of(&m, several...), m.below(2) == 0), newTrial(t, of(&m, several...), m.below(2) == 0)
		from.advance(50)
		to.advance(50)
		for range m.below(12) {
			db, key := m.below(databases), someKey(&m)
			from.give(db, key, grown(&m, of(&m, kinds...), of(&m, several...)))
			if m.below(2) == 0 {
				from.expire(db, key, of(&m, 51, 60, maxNumber, 51+m.below(1000)))
			}
		}
		for db := range databases {
			for _, key := range from.sp.Keys(db) {
				v, _ := from.sp.Peek(db, key)
				at, _ := from.sp.Expiry(db, key)
				payload := strings.TrimPrefix(from.askIn(db, "DUMP", key), "$")
				to.wantIn(db, "+OK", "RESTORE", key, fmt.Sprint(max(at, 0)), payload, "ABSTTL")
				to.holds(db, key, v, at)
			}
		}
	}
}
