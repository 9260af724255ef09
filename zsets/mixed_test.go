package zsets

import (
	"fmt"
	"slices"
	"strings"
	"sync"
	"testing"
	"unsafe"

	"cistern/api"
	"cistern/keyspace"
	"cistern/value"
)

// anyWord is a word that a command may have anywhere.
func anyWord(m *mix) string {
	switch m.below(10) {
	case 0, 1, 2:
		return pick(m, "a", "b", "c", "d", "e", "")
	case 3, 4:
		return fmt.Sprint(m.below(24) - 10)
	case 5, 6:
		return pick(m, "WITHSCORES", "WITHSCORE", "MATCH", "COUNT", "LIMIT", "BYSCORE", "BYLEX", "REV", "WEIGHTS", "AGGREGATE", "SUM", "MIN", "MAX", "NX", "XX", "GT", "LT", "CH", "INCR", "withScores", "limit", "byscore", "rev", "weights", "xx", "Incr")
	case 7:
		return pick(m, "*", "?", "[a-c]*", "[^1]", "\\", "1*", "(1", "(", "-", "+", "[a", "(b", "-inf", "+inf", "(inf", "(-7")
	case 8:
		return pick(m, least, greatest, most, "-"+most, "9007199254740992", "1048576", "1048577", "-1048577", "x", "01", "-0", "1.5")
	}
	b := make([]byte, m.below(30))
	for i := range b {
		b[i] = pick(m, byte(0), 255, 'x', '7', byte(m.below(256)))
	}
	return string(b)
}

func key(m *mix) string { return pick(m, "a", "b", "c", "d", "e") }

// keys are one to four of them, behind how many they are.
func keys(m *mix) []string {
	n := 1 + m.below(4)
	return append([]string{fmt.Sprint(n)}, key(m), key(m), key(m), key(m))[:n+1]
}

// item is a member that is likely to be in a sorted set.
func item(m *mix) string {
	return pick(m, "a", "b", "c", "1", "-7", "300", "2", "3", "10", "100000", "", "eight..8", "nine....9", strings.Repeat("long", 20), fmt.Sprint(m.below(40)))
}

// items are one to four of them.
func items(m *mix) []string { return []string{item(m), item(m), item(m), item(m)}[:1+m.below(4)] }

// points is a score that is likely to be in a sorted set.
func points(m *mix) string {
	return pick(m, "0", "1", "1", "2", "-1", fmt.Sprint(m.below(9)-4), fmt.Sprint(m.below(9)-4), fmt.Sprint(m.below(1000)-500), pick(m, most, "-"+most, "4503599627370496", "-4503599627370495"))
}

// pairs are one to three scores with members.
func pairs(m *mix) []string {
	return []string{points(m), item(m), points(m), item(m), points(m), item(m)}[:2+2*m.below(3)]
}

func rankWord(m *mix) string {
	return pick(m, "0", "-1", fmt.Sprint(m.below(14)-7), fmt.Sprint(m.below(80)-40), least, greatest)
}

func bound(m *mix) string {
	return pick(m, "-inf", "+inf", "Inf", "(-INF", "(+inf", "("+points(m), points(m), points(m))
}

func lex(m *mix) string { return pick(m, "-", "+", "["+item(m), "("+item(m), "[", "(") }

// ends are the two ends of a range, the lesser one mostly ahead.
func ends(m *mix, by string) []string {
	end := map[string]func(m *mix) string{"BYSCORE": bound, "BYLEX": lex, "": rankWord}[by]
	if m.below(3) == 0 {
		return map[string][]string{"BYSCORE": {"-inf", "+inf"}, "BYLEX": {"-", "+"}, "": {"0", "-1"}}[by]
	}
	return []string{end(m), end(m)}
}

func limit(m *mix) []string {
	return []string{"LIMIT", pick(m, "0", "1", fmt.Sprint(m.below(9)-2), greatest), pick(m, "-1", "0", fmt.Sprint(m.below(9)-2), least)}
}

// sometimes is a list of words, or none.
func sometimes(m *mix, words ...string) []string {
	if m.below(2) == 0 {
		return nil
	}
	return words
}

// shuffled are the words of lists, these in any order.
func shuffled(m *mix, lists ...[]string) []string {
	for i := range lists {
		j := m.below(i + 1)
		lists[i], lists[j] = lists[j], lists[i]
	}
	return slices.Concat(lists...)
}

// rangeWords are the ends and the options of ZRANGE.
func rangeWords(m *mix, scores bool) []string {
	by := pick(m, "", "BYSCORE", "BYLEX")
	words := ends(m, by)
	options := [][]string{sometimes(m, "REV")}
	if by != "" {
		if slices.Contains(words, "+inf") || slices.Contains(words, "+") {
			options[0] = nil
			if m.below(2) == 0 {
				options[0] = []string{"REV"}
				slices.Reverse(words)
			}
		}
		options = append(options, []string{by}, sometimes(m, limit(m)...))
	}
	if by != "BYLEX" && scores {
		options = append(options, sometimes(m, "WITHSCORES"))
	}
	return append(words, shuffled(m, options...)...)
}

// severalWords are keys and the options of ZUNION.
func severalWords(m *mix, scores bool) []string {
	words := keys(m)
	weights := []string{"WEIGHTS"}
	for range len(words) - 1 {
		weights = append(weights, pick(m, "1", "0", "-1", "2", "-3", points(m)))
	}
	options := [][]string{sometimes(m, weights...), sometimes(m, "AGGREGATE", pick(m, "SUM", "MIN", "MAX", "min"))}
	if scores {
		options = append(options, sometimes(m, "WITHSCORES"))
	}
	return append(words, shuffled(m, options...)...)
}

// addOptions are options of ZADD, mostly such as go together.
func addOptions(m *mix) []string {
	return shuffled(m, sometimes(m, pick(m, "NX", "XX", "GT", "LT")), sometimes(m, pick(m, "CH", "XX")), sometimes(m, pick(m, "CH", "ch", "GT")))
}

// likely is a line of a command that is likely to be done.
func likely(m *mix) []string {
	name := pick(m, append(Names(), "zadd", "zadd", "zadd", "zadd", "zadd", "zadd", "zadd", "zincrby", "zrem", "zunionstore", "zrangestore")...)
	words := []string{name, key(m)}
	switch name {
	case "zadd":
		words = append(words, addOptions(m)...)
		if m.below(6) == 0 {
			return append(words, "INCR", points(m), item(m))
		}
		return append(words, pairs(m)...)
	case "zincrby":
		return append(words, points(m), item(m))
	case "zrem", "zmscore":
		return append(words, items(m)...)
	case "zscore":
		return append(words, item(m))
	case "zrank", "zrevrank":
		return append(append(words, item(m)), sometimes(m, "WITHSCORE")...)
	case "zcount", "zremrangebyscore":
		return append(words, ends(m, "BYSCORE")...)
	case "zlexcount", "zremrangebylex":
		return append(words, ends(m, "BYLEX")...)
	case "zremrangebyrank":
		return append(words, ends(m, "")...)
	case "zrange":
		return append(words, rangeWords(m, true)...)
	case "zrangestore":
		return append(append(words, key(m)), rangeWords(m, false)...)
	case "zrevrange":
		return append(append(words, ends(m, "")...), sometimes(m, "WITHSCORES")...)
	case "zrangebyscore", "zrevrangebyscore":
		return append(append(words, ends(m, "BYSCORE")...), shuffled(m, sometimes(m, limit(m)...), sometimes(m, "WITHSCORES"))...)
	case "zrangebylex", "zrevrangebylex":
		return append(append(words, ends(m, "BYLEX")...), sometimes(m, limit(m)...)...)
	case "zpopmin", "zpopmax":
		return append(words, sometimes(m, fmt.Sprint(m.below(4)))...)
	case "zrandmember":
		return append(words, []string{fmt.Sprint(m.below(20) - 10), "WITHSCORES"}[:m.below(3)]...)
	case "zunion", "zinter":
		return append([]string{name}, severalWords(m, true)...)
	case "zdiff":
		return append(append([]string{name}, keys(m)...), sometimes(m, "WITHSCORES")...)
	case "zunionstore", "zinterstore":
		return append(words, severalWords(m, false)...)
	case "zdiffstore":
		return append(words, keys(m)...)
	case "zintercard":
		return append(append([]string{name}, keys(m)...), sometimes(m, "LIMIT", fmt.Sprint(m.below(5)))...)
	case "zscan":
		words = append(words, fmt.Sprint(m.below(9)))
		for range m.below(3) {
			words = append(words, pick(m, []string{"MATCH", pick(m, "*", "?", "[1-9]*", "a", "nine*")}, []string{"COUNT", fmt.Sprint(1 + m.below(9))})...)
		}
	}
	return words
}

// some is a line of any kind: mostly one that is likely to be done.
func some(m *mix) []string {
	if m.below(8) > 0 {
		return likely(m)
	}
	words := []string{pick(m, Names()...)}
	for range m.below(9) {
		words = append(words, anyWord(m))
	}
	return words
}

// TestMixed: commands of all kinds, one after the other, held against the model, with thresholds of all sizes; time goes on, other kinds come.
func TestMixed(t *testing.T) {
	for seed := range 36 {
		t.Run(fmt.Sprint(seed), func(t *testing.T) {
			t.Parallel()
			m := mix(seed + 1)
			p := newTrial(t, allLimits()[seed%3])
			for range 1000 {
				switch m.below(40) {
				case 0:
					p.advance(m.below(40))
				case 1:
					p.give(m.below(2), key(&m), kinds[m.below(len(kinds))])
				case 2:
					p.giveSet(m.below(2), key(&m), items(&m)...)
				case 3:
					p.expire(m.below(2), key(&m), p.sp.Now()+m.below(60))
				default:
					p.askIn(m.below(2), some(&m)...)
				}
			}
		})
	}
}

// TestP183Thresholds: spaces with the least thresholds and with the greatest ones answer alike, but to ZSCAN, though they keep sorted sets otherwise.
func TestP183Thresholds(t *testing.T) {
	t.Parallel()
	differ := 0
	for seed := range 20 {
		m := mix(seed + 1)
		small, great := newSpace(leastLimits()), newSpace(greatestLimits())
		for range 500 {
			words := some(&m)
			if strings.ToLower(words[0]) == "zscan" {
				continue
			}
			if a, b := Do(small, 0, words), Do(great, 0, words); !same(a, b) {
				t.Fatalf("%s: %s with the least, %s with the greatest thresholds", line(words), told(a), told(b))
			}
			if !slices.Equal(small.Keys(0), great.Keys(0)) {
				t.Fatalf("%s: the keys are %q and %q", line(words), small.Keys(0), great.Keys(0))
			}
			for _, key := range small.Keys(0) {
				if a, b := seenIn(small, 0, key), seenIn(great, 0, key); a != b {
					t.Fatalf("%s: %s is %v and %v", line(words), key, a, b)
				}
				a, _ := small.Peek(0, key)
				b, _ := great.Peek(0, key)
				if a.Encoding() != b.Encoding() {
					differ++
				}
			}
		}
	}
	if differ < 1000 {
		t.Errorf("only %d sorted sets were kept otherwise", differ)
	}
}

// TestRefused: whatever is refused changes nothing but uses.
func TestRefused(t *testing.T) {
	t.Parallel()
	m := mix(77)
	refused := 0
	var p *trial
	for i := range 20000 {
		if i%100 == 0 {
			p = begun(t) // else ever more keys are about
		}
		if m.below(9) == 0 {
			p.give(0, key(&m), kinds[m.below(len(kinds))])
		}
		words := likely(&m)
		words[m.below(len(words))] = anyWord(&m)
		before := p.unused()
		if got := p.ask(words...); strings.HasPrefix(got, "-") {
			refused++
			if p.unused() != before {
				t.Fatalf("%s: %s, and changed\n%s\ninto\n%s", line(words), got, before, p.unused())
			}
		}
	}
	if refused < 4000 {
		t.Errorf("only %d were refused", refused)
	}
}

// shared tells whether two texts have memory in common.
func shared(a, b string) bool {
	if a == "" || b == "" {
		return false
	}
	from, to := uintptr(unsafe.Pointer(unsafe.StringData(a))), uintptr(unsafe.Pointer(unsafe.StringData(b)))
	return from < to+uintptr(len(b)) && to < from+uintptr(len(a))
}

// spoil writes over words whose memory is the tester's own.
func spoil(words [][]byte) {
	for _, b := range words {
		for i := range b {
			b[i] = '#'
		}
	}
}

// TestP2Words: what the words' memory holds later is not seen, neither in the space nor in what was told; words and their spare room stay.
func TestP2Words(t *testing.T) {
	m := mix(5)
	lines := [][]string{{"ZADD", "a", "1", "text", "2", "nine....9"}, {"ZADD", "b", "CH", "3", strings.Repeat("long", 20), "1", "text"}, {"ZADD", "a", "INCR", "7", "a new one"}, {"ZINCRBY", "made", "7", "a sum"}, {"ZMSCORE", "a", "text", "none"}, {"ZUNIONSTORE", "the union", "2", "a", "b"}, {"ZRANGESTORE", "the range", "a", "0", "-1"}, {"ZRANGE", "a", "[a", "[z", "BYLEX", "LIMIT", "0", "9"}, {"ZSCAN", "a", "0", "MATCH", "*"}, {"ZREM", "a", "text"}, {"ZUNION", "2", "a", "b", "WITHSCORES"}}
	for range 1000 {
		lines = append(lines, likely(&m))
	}
	for _, limits := range allLimits() {
		one, other := newSpace(limits), newSpace(limits)
		for _, words := range lines {
			var memory [][]byte
			room := make([]string, 0, len(words)+2)
			for _, word := range words {
				b := []byte(word)
				memory = append(memory, b)
				room = append(room, unsafe.String(unsafe.SliceData(b), len(b)))
			}
			room = append(room, "spare", "room")
			kept := slices.Clone(room)
			got := Do(one, 0, room[:len(words)])
			if !slices.Equal(room, kept) || !slices.Equal(room[:len(words)], words) {
				t.Fatalf("%q has become %q", words, room)
			}
			spoil(memory)
			want := Do(other, 0, words)
			if !same(got, want) {
				t.Fatalf("%q: %s; want %s", words, told(got), told(want))
			}
			if !slices.Equal(one.Keys(0), other.Keys(0)) {
				t.Fatalf("%q: %q; want %q", words, one.Keys(0), other.Keys(0))
			}
			for _, key := range other.Keys(0) {
				if a, b := seenIn(one, 0, key), seenIn(other, 0, key); a != b {
					t.Fatalf("%q: %q is %v; want %v", words, key, a, b)
				}
			}
		}
	}
}

// texts are all texts of a reply, its own ahead of those of its list.
func texts(r api.Reply) []string {
	list := []string{r.Text}
	for _, one := range r.List {
		list = append(list, texts(one)...)
	}
	return list
}

// spoilReply writes over all lists of a reply, and their spare room.
func spoilReply(r api.Reply) {
	all := r.List[:cap(r.List)]
	for i := range all {
		spoilReply(all[i])
		all[i] = api.Reply{Kind: api.ReplyError, Text: "spoilt"}
	}
}

// TestP2Told: texts and lists that are told are the caller's: no two share memory, nor do they with words, nor is work on them seen.
func TestP2Told(t *testing.T) {
	name := strings.Repeat("member", 5)
	many := append(numberedNames("ZMSCORE", "z", "none", 0, few), name, "12")
	for _, limits := range allLimits() {
		for _, words := range [][]string{
			{"ZSCORE", "z", name}, {"ZMSCORE", "z", name, "12", "none"}, many, {"ZRANK", "z", name, "WITHSCORE"}, {"ZRANGE", "z", "0", "-1"}, {"ZRANGE", "z", "0", "-1", "WITHSCORES"}, {"ZRANGE", "z", "+inf", "-inf", "BYSCORE", "REV", "WITHSCORES"}, {"ZRANGEBYLEX", "z", "-", "[" + name}, {"ZRANDMEMBER", "z"}, {"ZRANDMEMBER", "z", "3"}, {"ZRANDMEMBER", "z", "9", "WITHSCORES"}, {"ZUNION", "3", "z", "s", "z", "WITHSCORES"}, {"ZINTER", "2", "z", "z"}, {"ZDIFF", "2", "z", "none"}, {"ZSCAN", "z", "0"}, {"ZSCAN", "z", "0", "MATCH", name}, {"ZINCRBY", "z", "100", name}, {"ZADD", "z", "INCR", "100", name}, {"ZPOPMIN", "z", "2"}, {"ZPOPMAX", "z", "2"},
		} {
			one, other := newSpace(limits), newSpace(limits)
			put := []string{"ZADD", "z", "100", name, "200", name + "2", "34", "12", "8", "eight..8"}
			for _, sp := range []*keyspace.Space{one, other} {
				Do(sp, 0, put)
				set, _ := value.New(api.KindSet, limits)
				set.Add(name, "in the set")
				sp.Put(0, "s", set)
			}
			r := Do(one, 0, words)
			all := texts(r)
			for i, text := range all {
				for _, more := range append(slices.Clone(all[:i]), words...) {
					if len(text) > 1 && shared(text, more) { // the texts of single digits may be the language's own
						t.Errorf("%q: %q and %q share memory", words, text, more)
					}
				}
			}
			spoilReply(r)
			Do(other, 0, words)
			if a, b := seenIn(one, 0, "z"), seenIn(other, 0, "z"); a != b {
				t.Errorf("%q: behind work on the answer z is %v; want %v", words, a, b)
			}
			if a, b := Do(one, 0, words), Do(other, 0, words); !same(a, b) {
				t.Errorf("%q: behind work on the answer %s; want %s", words, told(a), told(b))
			}
		}
	}
}

// TestP2Alone: what a space answers hangs on its own calls alone, whoever else calls at the same time.
func TestP2Alone(t *testing.T) {
	run := func(seed int) string {
		m := mix(seed)
		sp := newSpace(someLimits())
		var b strings.Builder
		for range 500 {
			b.WriteString(told(Do(sp, 0, likely(&m))) + "\n")
		}
		return b.String()
	}
	wants := make([]string, 8)
	for i := range wants {
		wants[i] = run(i + 1)
	}
	var group sync.WaitGroup
	for i, want := range wants {
		group.Go(func() {
			for range 3 {
				if run(i+1) != want {
					t.Errorf("seed %d: other answers", i+1)
				}
			}
		})
	}
	group.Wait()
}

// TestP1Words: words of any bytes in any number end with an answer.
func TestP1Words(t *testing.T) {
	t.Parallel()
	m := mix(11)
	var p *trial
	for i := range 20000 {
		if i%100 == 0 {
			p = newTrial(t, someLimits())
		}
		words := make([]string, m.below(12))
		for i := range words {
			words[i] = anyWord(&m)
		}
		if len(words) > 0 && m.below(8) > 0 {
			words[0] = pick(&m, Names()...)
		}
		p.askIn(m.below(4)-1, words...)
	}
}
