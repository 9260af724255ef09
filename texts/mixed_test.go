package texts

import (
	"fmt"
	"slices"
	"strings"
	"sync"
	"testing"
	"unsafe"

	"cistern/api"
	"cistern/keyspace"
)

// anyWord is a word that a command may have anywhere.
func anyWord(m *mix) string {
	switch m.below(9) {
	case 0, 1, 2:
		return pick(m, "a", "b", "c", "d", "e", "")
	case 3, 4:
		return fmt.Sprint(m.below(40) - 12)
	case 5:
		return pick(m, "NX", "XX", "GET", "KEEPTTL", "PERSIST", "EX", "PX", "EXAT", "PXAT", "nx", "ex", "pxat")
	case 6:
		return pick(m, "AND", "OR", "XOR", "NOT", "BIT", "BYTE", "bit", "not")
	case 7:
		return pick(m, least, greatest, "9007199254740991", "9007199254740992", "4194304", "524288", "x", "01", "-0", "1.5")
	}
	b := make([]byte, m.below(60))
	for i := range b {
		b[i] = pick(m, byte(0), 255, 'x', '7', byte(m.below(256)))
	}
	return string(b)
}

func key(m *mix) string    { return pick(m, "a", "b", "c", "d", "e") }
func small(m *mix) string  { return fmt.Sprint(m.below(40) - 12) }
func bit(m *mix) string    { return pick(m, "0", "1") }
func option(m *mix) string { return pick(m, "EX", "PX", "EXAT", "PXAT") + " " + small(m) }

// likely is a line of a command that is likely to be done.
func likely(m *mix) []string {
	name := pick(m, Names()...)
	words := []string{name, key(m)}
	switch name {
	case "set":
		words = append(words, pick(m, small(m), anyWord(m)))
		for range m.below(3) {
			words = append(words, strings.Fields(pick(m, "NX", "XX", "GET", "KEEPTTL", option(m)))...)
		}
	case "getex":
		words = append(words, strings.Fields(pick(m, "", "PERSIST", option(m), option(m)))...)
	case "getset", "setnx", "append":
		words = append(words, anyWord(m))
	case "setex", "psetex":
		words = append(words, small(m), anyWord(m))
	case "mget":
		words = append(words, key(m), key(m))
	case "mset", "msetnx":
		words = append(words, small(m), key(m), anyWord(m))
	case "incrby", "decrby":
		words = append(words, pick(m, small(m), greatest, least))
	case "getrange":
		words = append(words, small(m), small(m))
	case "setrange":
		words = append(words, small(m), anyWord(m))
	case "getbit":
		words = append(words, small(m))
	case "setbit":
		words = append(words, small(m), bit(m))
	case "bitcount":
		words = append(words, []string{small(m), small(m), pick(m, "BIT", "BYTE")}[:pick(m, 0, 2, 3)]...)
	case "bitpos":
		words = append(words, bit(m))
		words = append(words, []string{small(m), small(m), pick(m, "BIT", "BYTE")}[:m.below(4)]...)
	case "bitop":
		words = append([]string{name, pick(m, "AND", "OR", "XOR", "NOT"), key(m), key(m)}, strings.Fields(pick(m, "", "a", "b c"))...)
	}
	return words
}

// TestMixed: commands of all kinds, one after the other, held against the model; time goes on, other kinds come.
func TestMixed(t *testing.T) {
	for seed := range 60 {
		t.Run(fmt.Sprint(seed), func(t *testing.T) {
			t.Parallel()
			m := mix(seed + 1)
			p := newTrial(t)
			for range 1500 {
				switch m.below(30) {
				case 0:
					p.advance(m.below(40))
				case 1:
					p.give(m.below(2), key(&m), kinds[m.below(len(kinds))])
				case 2, 3, 4:
					words := []string{pick(&m, Names()...)}
					for range m.below(7) {
						words = append(words, anyWord(&m))
					}
					p.askIn(m.below(2), words...)
				default:
					p.askIn(m.below(2), likely(&m)...)
				}
			}
		})
	}
}

// TestRefused: whatever is refused changes nothing but uses.
func TestRefused(t *testing.T) {
	t.Parallel()
	m := mix(77)
	refused := 0
	var p *trial
	for i := range 20000 {
		if i%100 == 0 {
			p = begun(t) // else ever more keys are about
		}
		if m.below(9) == 0 {
			p.give(0, key(&m), kinds[m.below(len(kinds))])
		}
		words := likely(&m)
		words[m.below(len(words))] = anyWord(&m)
		before := p.unused()
		if got := p.ask(words...); strings.HasPrefix(got, "-") {
			refused++
			if p.unused() != before {
				t.Fatalf("%s: %s, and changed\n%s\ninto\n%s", line(words), got, before, p.unused())
			}
		}
	}
	if refused < 4000 {
		t.Errorf("only %d were refused", refused)
	}
}

// shared tells whether two texts have memory in common.
func shared(a, b string) bool {
	if a == "" || b == "" {
		return false
	}
	from, to := uintptr(unsafe.Pointer(unsafe.StringData(a))), uintptr(unsafe.Pointer(unsafe.StringData(b)))
	return from < to+uintptr(len(b)) && to < from+uintptr(len(a))
}

// spoil writes over words whose memory is the tester's own.
func spoil(words [][]byte) {
	for _, b := range words {
		for i := range b {
			b[i] = '#'
		}
	}
}

// TestP2Words: what the words' memory holds later is not seen, neither in the space nor in what was told; words and their spare room stay.
func TestP2Words(t *testing.T) {
	m := mix(5)
	lines := [][]string{{"MSET", "a", "1", "b", "2"}, {"SET", "c", "text", "GET", "PX", "9"}, {"APPEND", "d", "more"}, {"SETRANGE", "d", "2", "xyz"}, {"BITOP", "OR", "e", "c", "d"}, {"GETSET", "c", "next"}, {"MGET", "a", "b", "c"}, {"GETRANGE", "e", "0", "-1"}}
	for range 400 {
		lines = append(lines, likely(&m))
	}
	one, _ := keyspace.New(config())
	other, _ := keyspace.New(config())
	for _, words := range lines {
		var memory [][]byte
		room := make([]string, 0, len(words)+2)
		for _, word := range words {
			b := []byte(word)
			memory = append(memory, b)
			room = append(room, unsafe.String(unsafe.SliceData(b), len(b)))
		}
		room = append(room, "spare", "room")
		kept := slices.Clone(room)
		got := Do(one, 0, room[:len(words)])
		if !slices.Equal(room, kept) || !slices.Equal(room[:len(words)], words) {
			t.Fatalf("%q has become %q", words, room)
		}
		spoil(memory)
		want := Do(other, 0, words)
		if !same(got, want) {
			t.Fatalf("%q: %s; want %s", words, told(got), told(want))
		}
		for _, key := range other.Keys(0) {
			if a, b := seenIn(one, 0, key), seenIn(other, 0, key); a != b {
				t.Fatalf("%q: %q is %v; want %v", words, key, a, b)
			}
		}
		if !slices.Equal(one.Keys(0), other.Keys(0)) {
			t.Fatalf("%q: %q; want %q", words, one.Keys(0), other.Keys(0))
		}
	}
}

// TestP2Told: texts and lists that are told are the caller's: no two share memory, nor do they with words.
func TestP2Told(t *testing.T) {
	sp, _ := keyspace.New(config())
	Do(sp, 0, []string{"MSET", "a", "some text", "b", "other text"})
	args := []string{"MGET", "a", "b", "a", "none"}
	r := Do(sp, 0, args)
	for i, one := range r.List {
		for _, two := range r.List[:i] {
			if shared(one.Text, two.Text) {
				t.Errorf("two texts that are told share memory: %q, %q", one.Text, two.Text)
			}
		}
	}
	all := r.List[:cap(r.List)]
	for i := range all {
		all[i] = api.Reply{Kind: api.ReplyError, Text: "spoilt"}
	}
	if got := told(Do(sp, 0, args)); got != "*$some text $other text $some text _" {
		t.Errorf("behind work on an answer: %s", got)
	}
	value := strings.Repeat("v", 30)
	for _, words := range [][]string{{"SET", "a", value, "GET"}, {"SET", "a", value, "GET"}, {"GETSET", "a", value}, {"GET", "a"}, {"GETRANGE", "a", "0", "-1"}, {"GETEX", "a", "PERSIST"}, {"GETDEL", "a"}} {
		if r := Do(sp, 0, words); r.Kind != api.ReplyBulk || shared(r.Text, value) {
			t.Errorf("%q: %+v", words, r)
		}
	}
}

// TestP2Alone: what a space answers hangs on its own calls alone, whoever else calls at the same time.
func TestP2Alone(t *testing.T) {
	run := func(seed int) string {
		m := mix(seed)
		sp, _ := keyspace.New(config())
		var b strings.Builder
		for range 500 {
			b.WriteString(told(Do(sp, 0, likely(&m))) + "\n")
		}
		return b.String()
	}
	wants := make([]string, 8)
	for i := range wants {
		wants[i] = run(i + 1)
	}
	var group sync.WaitGroup
	for i, want := range wants {
		group.Go(func() {
			for range 3 {
				if run(i+1) != want {
					t.Errorf("seed %d: other answers", i+1)
				}
			}
		})
	}
	group.Wait()
}

// TestP1Words: words of any bytes in any number end with an answer.
func TestP1Words(t *testing.T) {
	t.Parallel()
	m := mix(11)
	var p *trial
	for i := range 20000 {
		if i%100 == 0 {
			p = newTrial(t)
		}
		words := make([]string, m.below(10))
		for i := range words {
			words[i] = anyWord(&m)
		}
		if len(words) > 0 && m.below(8) > 0 {
			words[0] = pick(&m, Names()...)
		}
		p.askIn(m.below(4)-1, words...)
	}
}
