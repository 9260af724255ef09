package keys

import (
	"fmt"
	"slices"
	"strings"
	"sync"
	"testing"
	"unsafe"

	"cistern/api"
	"cistern/keyspace"
)

// anyWord is a word that a command may have anywhere.
func anyWord(m *mix) string {
	switch m.below(9) {
	case 0, 1, 2:
		return key(m)
	case 3, 4:
		return fmt.Sprint(m.below(24) - 10)
	case 5:
		word := pick(m, optionWords()...)
		return pick(m, word, strings.ToUpper(word), mixed(word))
	case 6:
		return pick(m, "*", "?", "[a-c]*", "[^1]", "\\", "1*")
	case 7:
		return pick(m, least, greatest, "9007199254740991", "9007199254740992", "-9007199254740992", "9007199254741", "x", "01", "-0", "1.5", "")
	}
	b := make([]byte, m.below(30))
	for i := range b {
		b[i] = pick(m, byte(0), 255, 'x', '7', byte(m.below(256)))
	}
	return string(b)
}

func key(m *mix) string { return pick(m, "a", "b", "c", "d", "e", "f", "g", "h") }

func sometimes(m *mix, words ...string) []string {
	if m.below(2) == 0 {
		return nil
	}
	return words
}

// shuffled are groups of words in an order by chance.
func shuffled(m *mix, groups ...[]string) []string {
	for i := range groups {
		j := m.below(i + 1)
		groups[i], groups[j] = groups[j], groups[i]
	}
	return slices.Concat(groups...)
}

// likely is a line of a command that is likely to be done.
func likely(m *mix) []string {
	name := pick(m, append(Names(), "copy", "copy", "copy", "rename", "sort", "expire", "move")...)
	number := func(from, to int) string { return fmt.Sprint(from + m.below(to-from)) }
	switch name {
	case "dbsize", "randomkey":
		return []string{name}
	case "del", "unlink", "exists", "touch":
		return append([]string{name}, []string{key(m), key(m), key(m)}[:1+m.below(3)]...)
	case "expire", "expireat", "pexpire", "pexpireat":
		words := []string{name, key(m), number(-2, 30)}
		if name[0] == 'p' {
			words[2] = number(-50, 5000)
		}
		return append(words, sometimes(m, pick(m, "NX", "XX", "GT", "LT"))...)
	case "rename", "renamenx":
		return []string{name, key(m), key(m)}
	case "copy":
		return append([]string{name, key(m), key(m)}, shuffled(m, sometimes(m, "DB", number(0, databases)), sometimes(m, "REPLACE"))...)
	case "move":
		return []string{name, key(m), number(0, databases)}
	case "keys":
		return []string{name, pick(m, "*", "?", "[a-c]", "a", "none", "[^b]*")}
	case "scan":
		return append([]string{name, number(0, 9)}, shuffled(m, sometimes(m, "MATCH", pick(m, "*", "?", "[a-c]")), sometimes(m, "COUNT", number(1, 9)), sometimes(m, "TYPE", pick(m, "string", "list", "SET", "zset", "hash", "none")))...)
	case "object":
		return []string{name, pick(m, "ENCODING", "IDLETIME", "REFCOUNT", "FREQ"), key(m)}
	case "sort":
		return append([]string{name, key(m)}, shuffled(m, sometimes(m, "LIMIT", number(-2, 5), number(-2, 5)), sometimes(m, pick(m, "ASC", "DESC")), sometimes(m, "ALPHA"), sometimes(m, "STORE", key(m)))...)
	case "flushdb", "flushall":
		if m.below(8) > 0 {
			return []string{"dbsize"} // else few keys are about
		}
		return append([]string{name}, sometimes(m, pick(m, "ASYNC", "SYNC"))...)
	case "swapdb":
		return []string{name, number(0, databases), number(0, databases)}
	}
	return []string{name, key(m)}
}

// some is a line of any kind: mostly one that is likely to be done.
func some(m *mix) []string {
	if m.below(8) > 0 {
		return likely(m)
	}
	words := []string{pick(m, Names()...)}
	for range m.below(8) {
		words = append(words, anyWord(m))
	}
	return words
}

// members are what a value that comes by chance holds: mostly numbers.
func members(m *mix) []string {
	var list []string
	for range 1 + m.below(8) {
		list = append(list, pick(m, "1", "-7", "300", greatest, fmt.Sprint(m.below(40)), fmt.Sprint(m.below(1000)-500)))
	}
	if m.below(3) == 0 {
		list = append(list, pick(m, "x", "", "nine....9", strings.Repeat("long", 20), "01"))
	}
	return list
}

// giveSome puts a value that comes by chance under a key of both.
func (p *trial) giveSome(m *mix) {
	p.t.Helper()
	p.give(m.below(databases), key(m), kinds[m.below(5)], members(m)...)
}

// TestMixed: commands of all kinds, one after the other, held against the model, with thresholds of all sizes; time goes on, values come.
func TestMixed(t *testing.T) {
	for seed := range 36 {
		t.Run(fmt.Sprint(seed), func(t *testing.T) {
			t.Parallel()
			m := mix(seed + 1)
			p := newTrial(t, allLimits()[seed%3])
			for range 1500 {
				switch m.below(20) {
				case 0:
					p.advance(m.below(900))
				case 1, 2:
					p.giveSome(&m)
				default:
					p.askIn(m.below(databases), some(&m)...)
				}
			}
		})
	}
}

// TestThresholds: spaces with the least thresholds and with the greatest ones answer alike, but to OBJECT ENCODING, though they keep values otherwise.
func TestThresholds(t *testing.T) {
	t.Parallel()
	differ := 0
	for seed := range 20 {
		m := mix(seed + 1)
		small, great := newSpace(leastLimits()), newSpace(greatestLimits())
		for range 500 {
			if m.below(6) == 0 {
				db, key, kind, list := m.below(databases), key(&m), kinds[m.below(5)], members(&m)
				small.Put(db, key, made(kind, leastLimits(), list...))
				great.Put(db, key, made(kind, greatestLimits(), list...))
			}
			words := some(&m)
			if strings.EqualFold(words[0], "object") {
				continue
			}
			if a, b := Do(small, 0, words), Do(great, 0, words); !same(a, b) {
				t.Fatalf("%s: %s with the least, %s with the greatest thresholds", line(words), told(a), told(b))
			}
			for db := range databases {
				if !slices.Equal(small.Keys(db), great.Keys(db)) {
					t.Fatalf("%s: the keys of %d are %q and %q", line(words), db, small.Keys(db), great.Keys(db))
				}
				for _, key := range small.Keys(db) {
					a, _ := small.Peek(db, key)
					b, _ := great.Peek(db, key)
					if !a.Equal(b) || small.Mark(db, key) != great.Mark(db, key) || small.Idle(db, key) != great.Idle(db, key) {
						t.Fatalf("%s: %s of %d is %v and %v", line(words), key, db, seenIn(small, db, key), seenIn(great, db, key))
					}
					if a.Encoding() != b.Encoding() {
						differ++
					}
				}
			}
		}
	}
	if differ < 1000 {
		t.Errorf("only %d values were kept otherwise", differ)
	}
}

// TestP4: whatever is refused changes nothing but uses.
func TestP4(t *testing.T) {
	t.Parallel()
	m := mix(77)
	refused := 0
	var p *trial
	for i := range 20000 {
		if i%100 == 0 {
			p = begun(t)
		}
		if m.below(9) == 0 {
			p.giveSome(&m)
		}
		words := likely(&m)
		words[m.below(len(words))] = anyWord(&m)
		before := p.unused()
		if got := p.ask(words...); strings.HasPrefix(got, "-") {
			refused++
			if p.unused() != before {
				t.Fatalf("%s: %s, and changed\n%s\ninto\n%s", line(words), got, before, p.unused())
			}
		}
	}
	if refused < 4000 {
		t.Errorf("only %d were refused", refused)
	}
}

// TestP1Words: words of any bytes in any number end with an answer, in any database.
func TestP1Words(t *testing.T) {
	t.Parallel()
	m := mix(11)
	var p *trial
	for i := range 20000 {
		if i%100 == 0 {
			p = withKeys(t)
		}
		words := make([]string, m.below(11))
		for i := range words {
			words[i] = anyWord(&m)
		}
		if len(words) > 0 && m.below(8) > 0 {
			words[0] = pick(&m, Names()...)
		}
		p.askIn(m.below(databases+2)-1, words...)
	}
}

// shared tells whether two texts have memory in common.
func shared(a, b string) bool {
	if a == "" || b == "" {
		return false
	}
	from, to := uintptr(unsafe.Pointer(unsafe.StringData(a))), uintptr(unsafe.Pointer(unsafe.StringData(b)))
	return from < to+uintptr(len(b)) && to < from+uintptr(len(a))
}

// filledSpace has a value of each kind under a and so on to e in database 0.
func filledSpace(limits api.Thresholds) *keyspace.Space {
	sp := newSpace(limits)
	for i, kind := range kinds {
		sp.Put(0, string(rune('a'+i)), made(kind, limits, "3", "1", "2", "10", "9"))
	}
	sp.Put(0, "words", made(api.KindList, limits, strings.Repeat("member", 5), "12", strings.Repeat("more", 9), "eight..8"))
	sp.Expire(0, "c", 5000)
	return sp
}

// TestP2Words: what the words' memory holds later is not seen, neither in the space nor in what was told; words and their spare room stay.
func TestP2Words(t *testing.T) {
	m := mix(5)
	lines := [][]string{{"EXPIRE", "a", "1", "another word"}, {"RENAME", "a", "another key"}, {"COPY", "b", "a third key"}, {"COPY", "c", "a fourth key", "DB", "1"}, {"SORT", "b", "STORE", "a fifth key"}, {"MOVE", "another key", "1"}, {"KEYS", "*"}, {"SCAN", "0", "MATCH", "a*", "TYPE", "list"}, {"PEXPIRE", "a third key", "50"}, {"OBJECT", "ENCODING", "a third key"}}
	for range 1000 {
		lines = append(lines, likely(&m))
	}
	for _, limits := range allLimits() {
		one, other := filledSpace(limits), filledSpace(limits)
		for _, words := range lines {
			var memory [][]byte
			room := make([]string, 0, len(words)+2)
			for _, word := range words {
				b := []byte(word)
				memory = append(memory, b)
				room = append(room, unsafe.String(unsafe.SliceData(b), len(b)))
			}
			room = append(room, "spare", "room")
			kept := slices.Clone(room)
			got := Do(one, 0, room[:len(words)])
			if !slices.Equal(room, kept) || !slices.Equal(room[:len(words)], words) {
				t.Fatalf("%q has become %q", words, room)
			}
			for _, b := range memory {
				for i := range b {
					b[i] = '#'
				}
			}
			want := Do(other, 0, words)
			if !same(got, want) {
				t.Fatalf("%q: %s; want %s", words, told(got), told(want))
			}
			for db := range databases {
				if !slices.Equal(one.Keys(db), other.Keys(db)) {
					t.Fatalf("%q: %q; want %q", words, one.Keys(db), other.Keys(db))
				}
				for _, key := range other.Keys(db) {
					if a, b := seenIn(one, db, key), seenIn(other, db, key); a != b {
						t.Fatalf("%q: %q is %v; want %v", words, key, a, b)
					}
				}
			}
		}
	}
}

// spoilReply writes over all lists of a reply, and their spare room.
func spoilReply(r api.Reply) {
	all := r.List[:cap(r.List)]
	for i := range all {
		spoilReply(all[i])
		all[i] = api.Reply{Kind: api.ReplyError, Text: "spoilt"}
	}
}

// TestP2Told: texts and lists that are told are the caller's: no two share memory, nor do they with words, nor is work on them seen.
func TestP2Told(t *testing.T) {
	for _, limits := range allLimits() {
		for _, words := range [][]string{
			{"KEYS", "*"}, {"KEYS", "words"}, {"SCAN", "0"}, {"SCAN", "0", "MATCH", "words", "COUNT", "99"}, {"SCAN", "0", "TYPE", "list", "COUNT", "99"}, {"RANDOMKEY"}, {"TYPE", "words"}, {"OBJECT", "ENCODING", "words"}, {"SORT", "b"}, {"SORT", "c", "DESC"}, {"SORT", "d", "LIMIT", "1", "2"}, {"SORT", "words", "ALPHA"}, {"SORT", "words", "ALPHA", "DESC", "LIMIT", "1", "2"}, {"EXPIRE", "a", "1", strings.Repeat("option", 9)}, {"FLUSHDB", "what"}, {"RENAME", "none", "no more"},
		} {
			one, other := filledSpace(limits), filledSpace(limits)
			r := Do(one, 0, words)
			all := allTexts(r)
			for i, text := range all {
				for _, more := range append(slices.Clone(all[:i]), words...) {
					if shared(text, more) {
						t.Errorf("%q: %q and %q share memory", words, text, more)
					}
				}
			}
			spoilReply(r)
			Do(other, 0, words)
			for _, key := range other.Keys(0) {
				if a, b := seenIn(one, 0, key), seenIn(other, 0, key); a != b {
					t.Errorf("%q: behind work on the answer %s is %v; want %v", words, key, a, b)
				}
			}
			if a, b := Do(one, 0, words), Do(other, 0, words); !same(a, b) {
				t.Errorf("%q: behind work on the answer %s; want %s", words, told(a), told(b))
			}
		}
	}
}

// TestP2Alone: what a space answers hangs on its own calls alone, whoever else calls at the same time.
func TestP2Alone(t *testing.T) {
	run := func(seed int) string {
		m := mix(seed)
		sp := filledSpace(someLimits())
		var b strings.Builder
		for range 500 {
			b.WriteString(told(Do(sp, 0, likely(&m))) + "\n")
		}
		return b.String()
	}
	wants := make([]string, 8)
	for i := range wants {
		wants[i] = run(i + 1)
	}
	var group sync.WaitGroup
	for i, want := range wants {
		group.Go(func() {
			for range 3 {
				if run(i+1) != want {
					t.Errorf("seed %d: other answers", i+1)
				}
			}
		})
	}
	group.Wait()
}
