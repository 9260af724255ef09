package hashes

import (
	"fmt"
	"slices"
	"strings"
	"sync"
	"testing"
	"unsafe"

	"cistern/api"
)

// anyWord is a word that a command may have anywhere.
func anyWord(m *mix) string {
	switch m.below(9) {
	case 0, 1, 2:
		return pick(m, "a", "b", "c", "d", "e", "")
	case 3, 4:
		return fmt.Sprint(m.below(24) - 10)
	case 5:
		return pick(m, "WITHVALUES", "MATCH", "COUNT", "NOVALUES", "withvalues", "Match", "count", "noValues")
	case 6:
		return pick(m, "*", "?", "[a-c]*", "[^1]", "\\", "1*")
	case 7:
		return pick(m, least, greatest, "1048576", "1048577", "-1048577", "x", "01", "-0", "1.5")
	}
	b := make([]byte, m.below(30))
	for i := range b {
		b[i] = pick(m, byte(0), 255, 'x', '7', byte(m.below(256)))
	}
	return string(b)
}

func key(m *mix) string { return pick(m, "a", "b", "c", "d", "e") }

// item is a name that is likely to be in a hash.
func item(m *mix) string {
	return pick(m, "a", "b", "c", "1", "-7", "300", "2", "3", "10", "100000", "", "eight..8", "nine....9", strings.Repeat("long", 20), fmt.Sprint(m.below(40)))
}

// items are one to four of them.
func items(m *mix) []string { return []string{item(m), item(m), item(m), item(m)}[:1+m.below(4)] }

// word is a value that is likely to be in a hash.
func word(m *mix) string {
	return pick(m, "1", "-7", "0", "300", greatest, least, "01", "", "text", "eight..8", "nine....9", strings.Repeat("long", 20), fmt.Sprint(m.below(1000)-500))
}

// pairs are one to three names with values.
func pairs(m *mix) []string {
	return []string{item(m), word(m), item(m), word(m), item(m), word(m)}[:2+2*m.below(3)]
}

// likely is a line of a command that is likely to be done.
func likely(m *mix) []string {
	name := pick(m, append(Names(), "hset", "hset", "hset", "hincrby", "hdel")...)
	words := []string{name, key(m)}
	switch name {
	case "hset", "hmset":
		words = append(words, pairs(m)...)
	case "hsetnx":
		words = append(words, item(m), word(m))
	case "hget", "hexists", "hstrlen":
		words = append(words, item(m))
	case "hmget", "hdel":
		words = append(words, items(m)...)
	case "hincrby":
		words = append(words, item(m), pick(m, "1", "-1", "0", "77", greatest, least, fmt.Sprint(m.below(100)-50)))
	case "hrandfield":
		words = append(words, []string{fmt.Sprint(m.below(20) - 10), "WITHVALUES"}[:m.below(3)]...)
	case "hscan":
		words = append(words, fmt.Sprint(m.below(9)))
		for range m.below(3) {
			words = append(words, pick(m, []string{"MATCH", pick(m, "*", "?", "[1-9]*", "a", "nine*")}, []string{"COUNT", fmt.Sprint(1 + m.below(9))})...)
		}
		if m.below(2) == 0 {
			words = slices.Insert(words, 3+2*m.below((len(words)-1)/2), "NOVALUES")
		}
	}
	return words
}

// some is a line of any kind: mostly one that is likely to be done.
func some(m *mix) []string {
	if m.below(8) > 0 {
		return likely(m)
	}
	words := []string{pick(m, Names()...)}
	for range m.below(8) {
		words = append(words, anyWord(m))
	}
	return words
}

// TestMixed: commands of all kinds, one after the other, held against the model, with thresholds of all sizes; time goes on, other kinds come.
func TestMixed(t *testing.T) {
	for seed := range 36 {
		t.Run(fmt.Sprint(seed), func(t *testing.T) {
			t.Parallel()
			m := mix(seed + 1)
			p := newTrial(t, allLimits()[seed%3])
			for range 1000 {
				switch m.below(40) {
				case 0:
					p.advance(m.below(40))
				case 1:
					p.give(m.below(2), key(&m), kinds[m.below(len(kinds))])
				case 2:
					p.expire(m.below(2), key(&m), p.sp.Now()+m.below(60))
				default:
					p.askIn(m.below(2), some(&m)...)
				}
			}
		})
	}
}

// TestHA2Thresholds: spaces with the least thresholds and with the greatest ones answer alike, but to HSCAN, though they keep hashes otherwise.
func TestHA2Thresholds(t *testing.T) {
	t.Parallel()
	differ := 0
	for seed := range 20 {
		m := mix(seed + 1)
		small, great := newSpace(leastLimits()), newSpace(greatestLimits())
		for range 500 {
			words := some(&m)
			if strings.ToLower(words[0]) == "hscan" {
				continue
			}
			if a, b := Do(small, 0, words), Do(great, 0, words); !same(a, b) {
				t.Fatalf("%s: %s with the least, %s with the greatest thresholds", line(words), told(a), told(b))
			}
			if !slices.Equal(small.Keys(0), great.Keys(0)) {
				t.Fatalf("%s: the keys are %q and %q", line(words), small.Keys(0), great.Keys(0))
			}
			for _, key := range small.Keys(0) {
				if a, b := seenIn(small, 0, key), seenIn(great, 0, key); a != b {
					t.Fatalf("%s: %s is %v and %v", line(words), key, a, b)
				}
				a, _ := small.Peek(0, key)
				b, _ := great.Peek(0, key)
				if a.Encoding() != b.Encoding() {
					differ++
				}
			}
		}
	}
	if differ < 1000 {
		t.Errorf("only %d hashes were kept otherwise", differ)
	}
}

// TestRefused: whatever is refused changes nothing but uses.
func TestRefused(t *testing.T) {
	t.Parallel()
	m := mix(77)
	refused := 0
	var p *trial
	for i := range 20000 {
		if i%100 == 0 {
			p = begun(t) // else ever more keys are about
		}
		if m.below(9) == 0 {
			p.give(0, key(&m), kinds[m.below(len(kinds))])
		}
		words := likely(&m)
		words[m.below(len(words))] = anyWord(&m)
		before := p.unused()
		if got := p.ask(words...); strings.HasPrefix(got, "-") {
			refused++
			if p.unused() != before {
				t.Fatalf("%s: %s, and changed\n%s\ninto\n%s", line(words), got, before, p.unused())
			}
		}
	}
	if refused < 4000 {
		t.Errorf("only %d were refused", refused)
	}
}

// shared tells whether two texts have memory in common.
func shared(a, b string) bool {
	if a == "" || b == "" {
		return false
	}
	from, to := uintptr(unsafe.Pointer(unsafe.StringData(a))), uintptr(unsafe.Pointer(unsafe.StringData(b)))
	return from < to+uintptr(len(b)) && to < from+uintptr(len(a))
}

// spoil writes over words whose memory is the tester's own.
func spoil(words [][]byte) {
	for _, b := range words {
		for i := range b {
			b[i] = '#'
		}
	}
}

// TestP2Words: what the words' memory holds later is not seen, neither in the space nor in what was told; words and their spare room stay.
func TestP2Words(t *testing.T) {
	m := mix(5)
	lines := [][]string{{"HSET", "a", "1", "text", "nine....9", "2"}, {"HMSET", "b", "more", strings.Repeat("long", 20)}, {"HSETNX", "a", "new one", "and new"}, {"HINCRBY", "a", "a sum", "7"}, {"HINCRBY", "made", "a sum", "7"}, {"HMGET", "a", "1", "none"}, {"HSCAN", "a", "0", "MATCH", "*"}, {"HDEL", "a", "1"}, {"HGETALL", "a"}}
	for range 1000 {
		lines = append(lines, likely(&m))
	}
	for _, limits := range allLimits() {
		one, other := newSpace(limits), newSpace(limits)
		for _, words := range lines {
			var memory [][]byte
			room := make([]string, 0, len(words)+2)
			for _, word := range words {
				b := []byte(word)
				memory = append(memory, b)
				room = append(room, unsafe.String(unsafe.SliceData(b), len(b)))
			}
			room = append(room, "spare", "room")
			kept := slices.Clone(room)
			got := Do(one, 0, room[:len(words)])
			if !slices.Equal(room, kept) || !slices.Equal(room[:len(words)], words) {
				t.Fatalf("%q has become %q", words, room)
			}
			spoil(memory)
			want := Do(other, 0, words)
			if !same(got, want) {
				t.Fatalf("%q: %s; want %s", words, told(got), told(want))
			}
			if !slices.Equal(one.Keys(0), other.Keys(0)) {
				t.Fatalf("%q: %q; want %q", words, one.Keys(0), other.Keys(0))
			}
			for _, key := range other.Keys(0) {
				if a, b := seenIn(one, 0, key), seenIn(other, 0, key); a != b {
					t.Fatalf("%q: %q is %v; want %v", words, key, a, b)
				}
			}
		}
	}
}

// texts are all texts of a reply, its own ahead of those of its list.
func texts(r api.Reply) []string {
	list := []string{r.Text}
	for _, one := range r.List {
		list = append(list, texts(one)...)
	}
	return list
}

// spoilReply writes over all lists of a reply, and their spare room.
func spoilReply(r api.Reply) {
	all := r.List[:cap(r.List)]
	for i := range all {
		spoilReply(all[i])
		all[i] = api.Reply{Kind: api.ReplyError, Text: "spoilt"}
	}
}

// TestP2Told: texts and lists that are told are the caller's: no two share memory, nor do they with words, nor is work on them seen.
func TestP2Told(t *testing.T) {
	name, text := strings.Repeat("member", 5), strings.Repeat("text", 7)
	many := namesOnly("HMGET", "h", "none", 0, few)
	for _, limits := range allLimits() {
		for _, words := range [][]string{
			{"HGET", "h", name}, {"HGET", "h", "12"}, {"HMGET", "h", name, "12", "none"}, append(many, name, "12"), {"HKEYS", "h"}, {"HVALS", "h"}, {"HGETALL", "h"}, {"HRANDFIELD", "h"}, {"HRANDFIELD", "h", "3"}, {"HRANDFIELD", "h", "9", "WITHVALUES"}, {"HRANDFIELD", "h", "2", "WITHVALUES"}, {"HSCAN", "h", "0"}, {"HSCAN", "h", "0", "MATCH", name}, {"HSCAN", "h", "0", "COUNT", "99", "NOVALUES"},
		} {
			one, other := newSpace(limits), newSpace(limits)
			put := []string{"HSET", "h", name, text, name + "2", text + "2", "12", "34", "eight..8", "8.."}
			Do(one, 0, put)
			Do(other, 0, put)
			r := Do(one, 0, words)
			all := texts(r)
			for i, text := range all {
				for _, more := range append(slices.Clone(all[:i]), words...) {
					if shared(text, more) {
						t.Errorf("%q: %q and %q share memory", words, text, more)
					}
				}
			}
			spoilReply(r)
			Do(other, 0, words)
			if a, b := seenIn(one, 0, "h"), seenIn(other, 0, "h"); a != b {
				t.Errorf("%q: behind work on the answer h is %v; want %v", words, a, b)
			}
			if a, b := Do(one, 0, words), Do(other, 0, words); !same(a, b) {
				t.Errorf("%q: behind work on the answer %s; want %s", words, told(a), told(b))
			}
		}
	}
}

// TestP2Alone: what a space answers hangs on its own calls alone, whoever else calls at the same time.
func TestP2Alone(t *testing.T) {
	run := func(seed int) string {
		m := mix(seed)
		sp := newSpace(someLimits())
		var b strings.Builder
		for range 500 {
			b.WriteString(told(Do(sp, 0, likely(&m))) + "\n")
		}
		return b.String()
	}
	wants := make([]string, 8)
	for i := range wants {
		wants[i] = run(i + 1)
	}
	var group sync.WaitGroup
	for i, want := range wants {
		group.Go(func() {
			for range 3 {
				if run(i+1) != want {
					t.Errorf("seed %d: other answers", i+1)
				}
			}
		})
	}
	group.Wait()
}

// TestP1Words: words of any bytes in any number end with an answer.
func TestP1Words(t *testing.T) {
	t.Parallel()
	m := mix(11)
	var p *trial
	for i := range 20000 {
		if i%100 == 0 {
			p = newTrial(t, someLimits())
		}
		words := make([]string, m.below(11))
		for i := range words {
			words[i] = anyWord(&m)
		}
		if len(words) > 0 && m.below(8) > 0 {
			words[0] = pick(&m, Names()...)
		}
		p.askIn(m.below(4)-1, words...)
	}
}
