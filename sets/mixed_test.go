package sets

import (
	"fmt"
	"slices"
	"strings"
	"sync"
	"testing"
	"unsafe"

	"cistern/api"
)

// anyWord is a word that a command may have anywhere.
func anyWord(m *mix) string {
	switch m.below(9) {
	case 0, 1, 2:
		return pick(m, "a", "b", "c", "d", "e", "")
	case 3, 4:
		return fmt.Sprint(m.below(24) - 10)
	case 5:
		return pick(m, "LIMIT", "MATCH", "COUNT", "limit", "Match", "count")
	case 6:
		return pick(m, "*", "?", "[a-c]*", "[^1]", "\\", "1*")
	case 7:
		return pick(m, least, greatest, "1048576", "1048577", "-1048577", "x", "01", "-0", "1.5")
	}
	b := make([]byte, m.below(30))
	for i := range b {
		b[i] = pick(m, byte(0), 255, 'x', '7', byte(m.below(256)))
	}
	return string(b)
}

func key(m *mix) string { return pick(m, "a", "b", "c", "d", "e") }

// keys are one to three of them.
func keys(m *mix) []string { return []string{key(m), key(m), key(m)}[:1+m.below(3)] }

// item is a member that is likely to be in a set.
func item(m *mix) string {
	return pick(m, "a", "b", "c", "1", "-7", "300", "2", "3", "10", "100000", "", "eight..8", "nine....9", strings.Repeat("long", 20), fmt.Sprint(m.below(40)))
}

// items are one to four of them.
func items(m *mix) []string { return []string{item(m), item(m), item(m), item(m)}[:1+m.below(4)] }

// likely is a line of a command that is likely to be done.
func likely(m *mix) []string {
	name := pick(m, append(Names(), "sadd", "sadd", "sadd", "srem")...)
	words := []string{name, key(m)}
	switch name {
	case "sadd", "srem", "smismember":
		words = append(words, items(m)...)
	case "sismember":
		words = append(words, item(m))
	case "spop":
		words = append(words, []string{fmt.Sprint(m.below(4))}[:m.below(2)]...)
	case "srandmember":
		words = append(words, []string{fmt.Sprint(m.below(20) - 10)}[:m.below(2)]...)
	case "smove":
		words = append(words, key(m), item(m))
	case "sinter", "sunion", "sdiff", "sinterstore", "sunionstore", "sdiffstore":
		words = append(words, keys(m)...)
	case "sintercard":
		list := keys(m)
		words = append([]string{name, fmt.Sprint(len(list))}, list...)
		words = append(words, []string{"LIMIT", fmt.Sprint(m.below(5))}[:2*m.below(2)]...)
	case "sscan":
		words = append(words, fmt.Sprint(m.below(9)))
		for range m.below(3) {
			words = append(words, pick(m, []string{"MATCH", pick(m, "*", "?", "[1-9]*", "a", "nine*")}, []string{"COUNT", fmt.Sprint(1 + m.below(9))})...)
		}
	}
	return words
}

// some is a line of any kind: mostly one that is likely to be done.
func some(m *mix) []string {
	if m.below(8) > 0 {
		return likely(m)
	}
	words := []string{pick(m, Names()...)}
	for range m.below(7) {
		words = append(words, anyWord(m))
	}
	return words
}

// TestMixed: commands of all kinds, one after the other, held against the model, with thresholds of all sizes; time goes on, other kinds come.
func TestMixed(t *testing.T) {
	for seed := range 36 {
		t.Run(fmt.Sprint(seed), func(t *testing.T) {
			t.Parallel()
			m := mix(seed + 1)
			p := newTrial(t, allLimits()[seed%3])
			for range 1000 {
				switch m.below(40) {
				case 0:
					p.advance(m.below(40))
				case 1:
					p.give(m.below(2), key(&m), kinds[m.below(len(kinds))])
				case 2:
					p.expire(m.below(2), key(&m), p.sp.Now()+m.below(60))
				default:
					p.askIn(m.below(2), some(&m)...)
				}
			}
		})
	}
}

// TestP162Thresholds: spaces with the least thresholds and with the greatest ones answer alike, but to SSCAN, though they keep sets otherwise.
func TestP162Thresholds(t *testing.T) {
	t.Parallel()
	differ := 0
	for seed := range 20 {
		m := mix(seed + 1)
		small, great := newSpace(leastLimits()), newSpace(greatestLimits())
		for range 500 {
			words := some(&m)
			if strings.ToLower(words[0]) == "sscan" {
				continue
			}
			if a, b := Do(small, 0, words), Do(great, 0, words); !same(a, b) {
				t.Fatalf("%s: %s with the least, %s with the greatest thresholds", line(words), told(a), told(b))
			}
			if !slices.Equal(small.Keys(0), great.Keys(0)) {
				t.Fatalf("%s: the keys are %q and %q", line(words), small.Keys(0), great.Keys(0))
			}
			for _, key := range small.Keys(0) {
				if a, b := seenIn(small, 0, key), seenIn(great, 0, key); a != b {
					t.Fatalf("%s: %s is %v and %v", line(words), key, a, b)
				}
				a, _ := small.Peek(0, key)
				b, _ := great.Peek(0, key)
				if a.Encoding() != b.Encoding() {
					differ++
				}
			}
		}
	}
	if differ < 1000 {
		t.Errorf("only %d sets were kept otherwise", differ)
	}
}

// TestRefused: whatever is refused changes nothing but uses.
func TestRefused(t *testing.T) {
	t.Parallel()
	m := mix(77)
	refused := 0
	var p *trial
	for i := range 20000 {
		if i%100 == 0 {
			p = begun(t) // else ever more keys are about
		}
		if m.below(9) == 0 {
			p.give(0, key(&m), kinds[m.below(len(kinds))])
		}
		words := likely(&m)
		words[m.below(len(words))] = anyWord(&m)
		before := p.unused()
		if got := p.ask(words...); strings.HasPrefix(got, "-") {
			refused++
			if p.unused() != before {
				t.Fatalf("%s: %s, and changed\n%s\ninto\n%s", line(words), got, before, p.unused())
			}
		}
	}
	if refused < 4000 {
		t.Errorf("only %d were refused", refused)
	}
}

// shared tells whether two texts have memory in common.
func shared(a, b string) bool {
	if a == "" || b == "" {
		return false
	}
	from, to := uintptr(unsafe.Pointer(unsafe.StringData(a))), uintptr(unsafe.Pointer(unsafe.StringData(b)))
	return from < to+uintptr(len(b)) && to < from+uintptr(len(a))
}

// spoil writes over words whose memory is the tester's own.
func spoil(words [][]byte) {
	for _, b := range words {
		for i := range b {
			b[i] = '#'
		}
	}
}

// TestP2Words: what the words' memory holds later is not seen, neither in the space nor in what was told; words and their spare room stay.
func TestP2Words(t *testing.T) {
	m := mix(5)
	lines := [][]string{{"SADD", "a", "1", "text", "nine....9"}, {"SADD", "b", "more", strings.Repeat("long", 20)}, {"SMOVE", "a", "made", "nine....9"}, {"SUNIONSTORE", "stored", "a", "b"}, {"SINTER", "a", "b"}, {"SSCAN", "a", "0", "MATCH", "*"}, {"SREM", "a", "text"}, {"SMEMBERS", "stored"}}
	for range 1000 {
		lines = append(lines, likely(&m))
	}
	for _, limits := range allLimits() {
		one, other := newSpace(limits), newSpace(limits)
		for _, words := range lines {
			var memory [][]byte
			room := make([]string, 0, len(words)+2)
			for _, word := range words {
				b := []byte(word)
				memory = append(memory, b)
				room = append(room, unsafe.String(unsafe.SliceData(b), len(b)))
			}
			room = append(room, "spare", "room")
			kept := slices.Clone(room)
			got := Do(one, 0, room[:len(words)])
			if !slices.Equal(room, kept) || !slices.Equal(room[:len(words)], words) {
				t.Fatalf("%q has become %q", words, room)
			}
			spoil(memory)
			want := Do(other, 0, words)
			if !same(got, want) {
				t.Fatalf("%q: %s; want %s", words, told(got), told(want))
			}
			if !slices.Equal(one.Keys(0), other.Keys(0)) {
				t.Fatalf("%q: %q; want %q", words, one.Keys(0), other.Keys(0))
			}
			for _, key := range other.Keys(0) {
				if a, b := seenIn(one, 0, key), seenIn(other, 0, key); a != b {
					t.Fatalf("%q: %q is %v; want %v", words, key, a, b)
				}
			}
		}
	}
}

// texts are all texts of a reply, its own ahead of those of its list.
func texts(r api.Reply) []string {
	list := []string{r.Text}
	for _, one := range r.List {
		list = append(list, texts(one)...)
	}
	return list
}

// spoilReply writes over all lists of a reply, and their spare room.
func spoilReply(r api.Reply) {
	all := r.List[:cap(r.List)]
	for i := range all {
		spoilReply(all[i])
		all[i] = api.Reply{Kind: api.ReplyError, Text: "spoilt"}
	}
}

// TestP2Told: texts and lists that are told are the caller's: no two share memory, nor do they with words, nor is work on them seen.
func TestP2Told(t *testing.T) {
	member := strings.Repeat("member", 5)
	for _, limits := range allLimits() {
		for _, words := range [][]string{
			{"SMEMBERS", "s"}, {"SPOP", "s"}, {"SPOP", "s", "3"}, {"SPOP", "s", "9"}, {"SRANDMEMBER", "s"}, {"SRANDMEMBER", "s", "3"}, {"SRANDMEMBER", "s", "9"}, {"SMISMEMBER", "s", member, "none"}, {"SINTER", "s"}, {"SINTER", "s", "t"}, {"SUNION", "s", "t"}, {"SDIFF", "s", "none"}, {"SSCAN", "s", "0"}, {"SSCAN", "s", "0", "MATCH", member}, {"SSCAN", "s", "0", "COUNT", "99"},
		} {
			one, other := newSpace(limits), newSpace(limits)
			for _, key := range []string{"s", "t"} {
				add := []string{"SADD", key, member, member + "2", "12", "eight..8", "8.."}
				Do(one, 0, add)
				Do(other, 0, add)
			}
			r := Do(one, 0, words)
			all := texts(r)
			for i, text := range all {
				for _, more := range append(slices.Clone(all[:i]), words...) {
					if shared(text, more) {
						t.Errorf("%q: %q and %q share memory", words, text, more)
					}
				}
			}
			spoilReply(r)
			Do(other, 0, words)
			for _, key := range other.Keys(0) {
				if a, b := seenIn(one, 0, key), seenIn(other, 0, key); a != b {
					t.Errorf("%q: behind work on the answer %q is %v; want %v", words, key, a, b)
				}
			}
			if a, b := Do(one, 0, words), Do(other, 0, words); !same(a, b) {
				t.Errorf("%q: behind work on the answer %s; want %s", words, told(a), told(b))
			}
		}
	}
}

// TestP2Stored: a set that is stored, or to which a member was moved, has nothing in common with those that it came from.
func TestP2Stored(t *testing.T) {
	for _, limits := range allLimits() {
		for _, name := range []string{"SUNIONSTORE", "SINTERSTORE", "SDIFFSTORE"} {
			p := newTrial(t, limits)
			p.want("SADD s a b 3", ":3")
			p.want(name+" d s", ":3")
			p.want("SADD s c", ":1")
			p.want("SREM d a", ":1")
			p.holds("s", "3 a b c")
			p.holds("d", "3 b")
			p.want("SMOVE s d a", ":1")
			p.want("SADD s a", ":1")
			p.want("SREM d a", ":1")
			p.holds("s", "3 a b c")
		}
	}
}

// TestP2Alone: what a space answers hangs on its own calls alone, whoever else calls at the same time.
func TestP2Alone(t *testing.T) {
	run := func(seed int) string {
		m := mix(seed)
		sp := newSpace(someLimits())
		var b strings.Builder
		for range 500 {
			b.WriteString(told(Do(sp, 0, likely(&m))) + "\n")
		}
		return b.String()
	}
	wants := make([]string, 8)
	for i := range wants {
		wants[i] = run(i + 1)
	}
	var group sync.WaitGroup
	for i, want := range wants {
		group.Go(func() {
			for range 3 {
				if run(i+1) != want {
					t.Errorf("seed %d: other answers", i+1)
				}
			}
		})
	}
	group.Wait()
}

// TestP1Words: words of any bytes in any number end with an answer.
func TestP1Words(t *testing.T) {
	t.Parallel()
	m := mix(11)
	var p *trial
	for i := range 20000 {
		if i%100 == 0 {
			p = newTrial(t, someLimits())
		}
		words := make([]string, m.below(10))
		for i := range words {
			words[i] = anyWord(&m)
		}
		if len(words) > 0 && m.below(8) > 0 {
			words[0] = pick(&m, Names()...)
		}
		p.askIn(m.below(4)-1, words...)
	}
}
