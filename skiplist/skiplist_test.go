package skiplist

import (
	"fmt"
	"math"
	"math/bits"
	"slices"
	"strings"
	"sync"
	"testing"
	"unsafe"

	"cistern/api"
	"cistern/dict"
)

// zeroSeed is the seed with which the empty text, and each text of zero bytes, has the hash 0.
const zeroSeed = -3750763034362895579

var seeds = []int{0, 1, 7, -1, 1 << 40, math.MinInt, math.MaxInt, zeroSeed}

func members[V any](list []Entry[V]) string {
	var names []string
	for _, e := range list {
		names = append(names, e.Member)
	}
	return strings.Join(names, " ")
}

func TestExamples(t *testing.T) {
	b := New[string](0)
	b.Set("b", 1, "x")
	b.Set("a", 1, "y")
	b.Set("c", 0, "z")
	if got := members(b.Slice(0, 2, false)); got != "c a b" {
		t.Errorf("the order is %s", got)
	}
	if rank, ok := b.Rank("b", false); rank != 2 || !ok {
		t.Errorf("Rank(b, false) = %d, %v", rank, ok)
	}
	if rank, ok := b.Rank("b", true); rank != 0 || !ok {
		t.Errorf("Rank(b, true) = %d, %v", rank, ok)
	}
	if got := b.ByScore(api.Bound{Open: true}, api.Bound{Inf: 1}, false, 0, -1); members(got) != "a b" || got[0].Value != "y" {
		t.Errorf("ByScore = %v", got)
	}
	if b.Set("c", 5, "w") {
		t.Errorf("Set(c, 5) is new")
	}
	if got := members(b.Slice(0, 2, false)); got != "a b c" {
		t.Errorf("the order is %s", got)
	}
	if got := members(b.ByLex(api.Lex{Text: "a", Open: true}, api.Lex{Text: "b"}, false, 0, -1)); got != "b" {
		t.Errorf("ByLex = %s", got)
	}
}

// TestK1Empty: what is asked of an empty Board, a new one and one that has been emptied.
func TestK1Empty(t *testing.T) {
	for _, seed := range seeds {
		p := newPair(t, seed, sameInts)
		for range 2 {
			if p.b.Len() != 0 || len(p.b.Tall()) != 0 {
				t.Fatalf("Len = %d, Tall = %v", p.b.Len(), p.b.Tall())
			}
			p.look("", "a")
			p.drop("")
			p.drop("a")
			p.slice(math.MinInt, math.MaxInt, false)
			p.slice(0, 0, true)
			p.ranges([]int{0, math.MinInt}, []string{"", "a"})
			p.set("a", 1, 1)
			p.set("", -1, 2)
			p.look("", "a", "b")
			p.drop("a")
			p.look("", "a")
			p.drop("")
		}
	}
}

// TestK1Set: new ones, such as are there, with the same score, with one that keeps the place and one that does not.
func TestK1Set(t *testing.T) {
	p := newPair(t, 0, sameInts)
	for i, member := range strings.Fields("d b f") {
		p.set(member, 10*i, i)
	}
	p.set("", 5, 3)
	p.look("x")
	for _, c := range []struct {
		member string
		score  int
	}{
		{"b", 10}, {"b", 9}, {"b", 11}, {"b", 19}, {"b", 20}, {"b", 21}, {"b", 5}, {"b", 4}, {"b", 0}, {"b", -1},
		{"d", -1}, {"d", -2}, {"", math.MaxInt}, {"", math.MaxInt}, {"", math.MinInt}, {"f", math.MinInt}, {"f", 0},
	} {
		p.set(c.member, c.score, c.score^7) // the value changes too
		p.look("x")
		p.set(c.member, c.score, 99) // the value alone
		p.look("x")
	}
}

// TestK1Drop: the first, the last, one between, one that is not there, again and again, until none is left.
func TestK1Drop(t *testing.T) {
	for _, order := range permutations(5) {
		p := newPair(t, 3, sameInts)
		for i := range 5 {
			p.set(string(rune('a'+i)), i/2, i)
		}
		for _, i := range order {
			member := string(rune('a' + i))
			p.drop(member)
			p.look(member, "")
			p.drop(member)
			p.drop("")
		}
	}
}

// permutations is all orders of the numbers below n.
func permutations(n int) [][]int {
	if n == 0 {
		return [][]int{nil}
	}
	var all [][]int
	for _, less := range permutations(n - 1) {
		for at := range n {
			all = append(all, slices.Insert(slices.Clone(less), at, n-1))
		}
	}
	return all
}

var greatScores = []int{0, 1, -1, math.MinInt, math.MinInt + 1, math.MaxInt, math.MaxInt - 1, api.MaxNumber, -api.MaxNumber, 1 << 62, -1 << 62}

// TestK1Scores: all scores there are are told apart, the least and the greatest ones too.
func TestK1Scores(t *testing.T) {
	p := newPair(t, 0, sameInts)
	for i, score := range greatScores {
		p.set(fmt.Sprint(i), score, i)
		p.set(fmt.Sprint("-", i), score, i)
	}
	p.look()
	sorted := slices.Clone(greatScores)
	slices.Sort(sorted)
	for i, e := range p.b.Slice(0, math.MaxInt, false) {
		if e.Score != sorted[i/2] {
			t.Errorf("rank %d has the score %d; want %d", i, e.Score, sorted[i/2])
		}
	}
	p.allCounts(greatScores, []string{"", "-", "1"})
	for _, from := range greatScores {
		for _, to := range greatScores {
			p.set("1", from, 1)
			p.set("1", to, 2)
			p.one("1")
		}
	}
}

// TestK2EqualScores: members of equal scores stand by their bytes, in whatever order they came; a beginning of another text
// is less than it, and bytes have no sign.
func TestK2EqualScores(t *testing.T) {
	names := []string{"", "\x00", "a", "a\x00", "aa", "b", "\x7f", "\x80", "\xff"}
	slices.Sort(names)
	for _, order := range permutations(6) {
		b := New[int](0)
		for _, i := range order {
			b.Set(names[i], -4, i)
		}
		for i, e := range b.Slice(0, 5, false) {
			if e.Member != names[i] || e.Value != i {
				t.Fatalf("order %v: rank %d is %v", order, i, e)
			}
		}
		sound(t, b)
	}
	p := newPair(t, 1, sameInts)
	for i := range names {
		p.set(names[i*4%len(names)], 7, i)
	}
	p.look("none")
	if got := p.b.Slice(0, 20, false); len(got) != len(names) || got[8].Member != "\xff" || got[1].Member != "\x00" {
		t.Errorf("the order is %v", got)
	}
}

// TestK2AllOrders: every order in which members come, with every way of two scores.
func TestK2AllOrders(t *testing.T) {
	for _, order := range permutations(4) {
		for scores := range 16 {
			p := newPair(t, 0, sameInts)
			for _, i := range order {
				p.set(string(rune('a'+i)), scores>>i&1, i)
			}
			p.look("x")
		}
	}
}

// TestK2Slice: all pairs of ranks, and those far off, both ways.
func TestK2Slice(t *testing.T) {
	for n := range 7 {
		p := newPair(t, 5, sameInts)
		for i := range n {
			p.set(fmt.Sprint(i), i*i%5, i)
		}
		ends := []int{math.MinInt, math.MinInt + 1, math.MaxInt - 1, math.MaxInt}
		for i := -3; i < n+3; i++ {
			ends = append(ends, i)
		}
		for _, from := range ends {
			for _, to := range ends {
				p.slice(from, to, false)
				p.slice(from, to, true)
			}
		}
	}
}

// TestK3Ranges: all ends of ranges with all skips and mosts, where scores are equal and where they are not.
func TestK3Ranges(t *testing.T) {
	texts := []string{"", "a", "b", "bb", "c", "d\xff"}
	for _, scores := range [][]int{{0, 0, 0, 0}, {1, 2, 3, 4}, {4, 3, 2, 1}, {-1, 1, -1, 1}, {math.MinInt, 0, 0, math.MaxInt}} {
		p := newPair(t, 2, sameInts)
		for i, member := range strings.Fields("d a bb c") {
			p.set(member, scores[i], i)
		}
		p.ranges(append(slices.Clone(scores), 2), texts)
	}
	p := newPair(t, 2, sameInts)
	p.ranges([]int{0}, []string{""})
	p.set("", 0, 1)
	p.ranges([]int{-1, 0, 1}, []string{"", "\x00"})
}

// TestK3LongRanges: the same with more members and towers of several heights.
func TestK3LongRanges(t *testing.T) {
	for round := range 12 {
		random := mix(round + 1)
		p := newPair(t, round, sameInts)
		spread := []int{1, 3, 20, 1000}[round%4]
		for i := range 70 {
			p.set(fmt.Sprint(random.below(100)), random.below(spread), i)
		}
		for range 300 {
			lo := api.Bound{Score: random.below(spread+2) - 1, Inf: max(random.below(12)-9, 0) - max(random.below(12)-9, 0), Open: random.below(2) == 0}
			hi := api.Bound{Score: random.below(spread+2) - 1, Inf: max(random.below(12)-9, 0) - max(random.below(12)-9, 0), Open: random.below(2) == 0}
			from := api.Lex{Text: fmt.Sprint(random.below(100)), Inf: lo.Inf, Open: hi.Open}
			to := api.Lex{Text: fmt.Sprint(random.below(100)), Inf: hi.Inf, Open: lo.Open}
			for _, back := range []bool{false, true} {
				skip, most := random.below(80)-2, random.below(80)-2
				p.byScore(lo, hi, back, skip, most)
				p.byLex(from, to, back, skip, most)
				p.byScore(lo, hi, back, 0, most)
				p.byLex(from, to, back, skip, -1)
			}
			p.counts(lo, hi)
			p.countsLex(from, to)
		}
	}
}

// TestK3OneEnd: lo equal to hi holds just that score, and nothing if one of the ends is open.
func TestK3OneEnd(t *testing.T) {
	p := newPair(t, 0, sameInts)
	for i, member := range strings.Fields("a b c d e") {
		p.set(member, i/2, i)
	}
	for _, c := range []struct {
		low, high bool
		scores    int
		members   int
	}{{false, false, 2, 1}, {true, false, 0, 0}, {false, true, 0, 0}, {true, true, 0, 0}} {
		if got := p.b.Count(api.Bound{Score: 1, Open: c.low}, api.Bound{Score: 1, Open: c.high}); got != c.scores {
			t.Errorf("%+v: Count = %d", c, got)
		}
		if got := p.b.CountLex(api.Lex{Text: "b", Open: c.low}, api.Lex{Text: "b", Open: c.high}); got != c.members {
			t.Errorf("%+v: CountLex = %d", c, got)
		}
	}
	for _, crossed := range []api.Bound{{Inf: 1}, {Score: 3}, {Score: 2, Open: true}} {
		if got := p.b.Count(crossed, api.Bound{Score: 0}); got != 0 {
			t.Errorf("Count(%+v, 0) = %d", crossed, got)
		}
	}
}

// TestK4Height: heights by hashes, of 0 and of the powers of two and of four.
func TestK4Height(t *testing.T) {
	for _, c := range [][2]int{
		{0, 24}, {1, 1}, {2, 1}, {3, 1}, {4, 2}, {8, 2}, {12, 2}, {16, 3}, {20, 2}, {32, 3}, {48, 3}, {64, 4},
		{math.MaxInt, 1}, {math.MaxInt - 3, 2}, {1 << 44, 23}, {1 << 45, 23}, {1 << 46, 24}, {1 << 47, 24}, {1 << 48, 24},
		{1 << 60, 24}, {1 << 62, 24}, {3 << 46, 24}, {5 << 44, 23},
	} {
		if got := height(c[0]); got != c[1] || got != heightByWords(c[0]) {
			t.Errorf("height(%d) = %d; want %d", c[0], got, c[1])
		}
	}
	for bit := range 63 {
		for _, odd := range []int{1, 3, 5} {
			hash := odd << bit & math.MaxInt
			if got, want := height(hash), heightByWords(hash); got != want {
				t.Errorf("height(%d) = %d; want %d", hash, got, want)
			}
		}
	}
}

// seedFor is the seed with which the empty text has a hash: the hash's reckoning, backwards.
func seedFor(hash int) int {
	h := uint64(hash) << 1
	h ^= h>>29 ^ h>>58
	inverse := uint64(1)
	for range 6 { // each time twice as many bits of the inverse of an odd number are right
		inverse *= 2 - 11400714819323198485*inverse
	}
	h *= inverse
	h ^= h >> 32
	return int(h ^ 14695981039346656037)
}

// TestK4EveryHeight: a tower of each height, with lower ones beside it, comes and goes.
func TestK4EveryHeight(t *testing.T) {
	for high := 1; high <= 26; high++ {
		seed := seedFor(1 << (2 * (high - 1)))
		if hash := dict.Hash(seed, ""); hash != 1<<(2*(high-1)) {
			t.Fatalf("the hash is %d", hash)
		}
		p := newPair(t, seed, sameInts)
		p.set("", 5, 0)
		if tall := p.b.Tall(); len(tall) != min(high, 24) || tall[len(tall)-1] != 1 {
			t.Errorf("height %d: Tall = %v", high, tall)
		}
		for i := range 30 {
			p.set(fmt.Sprint(i), i%10, i)
		}
		for _, score := range []int{9, -1, 5, 5, 100} {
			p.set("", score, 1)
			p.look("none")
		}
		p.drop("")
		p.look("")
		p.set("", 0, 1)
		for i := range 30 {
			p.drop(fmt.Sprint(i))
		}
		p.look()
		p.drop("")
	}
}

// TestK4Highest: many towers of the greatest height, whose members have the hash 0.
func TestK4Highest(t *testing.T) {
	p := newPair(t, zeroSeed, sameInts)
	for i := range 20 {
		p.set(strings.Repeat("\x00", i*7%20), i/3, i)
		p.set(fmt.Sprint(i), i/4, i)
	}
	if tall := p.b.Tall(); len(tall) != 24 || tall[23] != 20 {
		t.Errorf("Tall = %v", tall)
	}
	p.look()
	for i := range 20 {
		p.drop(strings.Repeat("\x00", i*3%20))
		p.look()
	}
	if tall := p.b.Tall(); len(tall) > 6 {
		t.Errorf("Tall = %v", tall)
	}
}

// tallMembers is a text whose tower has each of the heights from 1 to n.
func tallMembers(seed, n int) []string {
	found := make([]string, n)
	for i, left := 0, n; left > 0; i++ {
		member := fmt.Sprint("m", i)
		high := heightByWords(dict.Hash(seed, member))
		if high <= n && found[high-1] == "" {
			found[high-1] = member
			left--
		}
	}
	return found
}

// TestK4Tall: towers of several heights, in any order, for seeds of each kind; the heights that are left when the highest go.
func TestK4Tall(t *testing.T) {
	for _, seed := range []int{0, 1, 12345, -1, -99, math.MinInt, math.MaxInt} {
		names := tallMembers(seed, 8)
		for round := range 20 {
			random := mix(round + 1)
			p := newPair(t, seed, sameInts)
			for range 60 {
				member := names[random.below(len(names))]
				if random.below(3) == 0 {
					p.drop(member)
				} else {
					p.set(member, random.below(5), 0)
				}
			}
			p.look(names...)
		}
		p := newPair(t, seed, sameInts)
		p.set(names[7], 0, 0)
		if tall := p.b.Tall(); !slices.Equal(tall, []int{0, 0, 0, 0, 0, 0, 0, 1}) {
			t.Errorf("Tall = %v", tall)
		}
		p.set(names[2], 0, 0)
		p.drop(names[7])
		if tall := p.b.Tall(); !slices.Equal(tall, []int{0, 0, 1}) {
			t.Errorf("Tall = %v", tall)
		}
		p.set(names[7], 1, 0)
		p.look()
	}
}

// TestK4SeedAndMemberAlone: neither scores nor values nor the order of the calls change the towers.
func TestK4SeedAndMemberAlone(t *testing.T) {
	one, other := New[int](-7), New[string](-7)
	for i := range 500 {
		one.Set(fmt.Sprint(i), i, i)
		other.Set(fmt.Sprint(499-i), 0, "x")
		other.Set(fmt.Sprint(499-i), -i, "y")
		other.Set(fmt.Sprint("gone", i), -i, "z")
	}
	for i := range 500 {
		other.Drop(fmt.Sprint("gone", i))
	}
	if !slices.Equal(one.Tall(), other.Tall()) {
		t.Errorf("Tall = %v and %v", one.Tall(), other.Tall())
	}
	third := New[int](8)
	for i := range 500 {
		third.Set(fmt.Sprint(i), i, i)
	}
	if slices.Equal(one.Tall(), third.Tall()) {
		t.Errorf("two seeds, but the same towers %v", one.Tall())
	}
}

// TestK5Steps: the way to a member and to a rank grows as the logarithm of the number of members.
func TestK5Steps(t *testing.T) {
	for _, order := range []string{"rising", "falling", "equal"} {
		b := New[int](0)
		n := 0
		for _, size := range []int{1 << 8, 1 << 12, 1 << 16} {
			for ; n < size; n++ {
				score := map[string]int{"rising": n, "falling": -n, "equal": 0}[order]
				b.Set(fmt.Sprint(n), score, n)
			}
			asked := 0
			for i := 0; i < size; i += size / 256 {
				want := b.towers[fmt.Sprint(i)]
				way := b.seek(func(t *tower[int], _ int) bool { asked++; return t.isAhead(want) })
				b.seek(func(_ *tower[int], place int) bool { asked++; return place <= way[0].place+1 })
			}
			if most := 6 * bits.Len(uint(size)); asked/512 > most {
				t.Errorf("%s: of %d members %d steps; want at most %d", order, size, asked/512, most)
			}
		}
		sound(t, b)
	}
}

// TestK5Many: very many members, each call.
func TestK5Many(t *testing.T) {
	const many = api.MaxCount / 4
	b := New[struct{}](0)
	for i := range many {
		if !b.Set(fmt.Sprint(i), i*7919%100003, struct{}{}) {
			t.Fatalf("member %d is there", i)
		}
	}
	last := Entry[struct{}]{Score: math.MinInt}
	for i := 0; i < many; i += 97 {
		e, ok := b.At(i, false)
		rank, is := b.Rank(e.Member, true)
		if !ok || !is || rank != many-1-i || e.Score < last.Score || e.Score == last.Score && e.Member <= last.Member {
			t.Fatalf("rank %d is %v, %v; back %d, %v", i, e, ok, rank, is)
		}
		last = e
	}
	if n := b.Count(api.Bound{Inf: -1}, api.Bound{Score: 50000}) + b.Count(api.Bound{Score: 50000, Open: true}, api.Bound{Inf: 1}); n != many {
		t.Errorf("%d on both sides of a score", n)
	}
	for i := range many {
		b.Set(fmt.Sprint(i), -i, struct{}{})
	}
	sound(t, b)
	for i := range many {
		if !b.Drop(fmt.Sprint(i)) {
			t.Fatalf("member %d is not there", i)
		}
	}
	if b.Len() != 0 || len(b.Tall()) != 0 {
		t.Errorf("Len = %d, Tall = %v", b.Len(), b.Tall())
	}
}

// TestK6ThereAndBack: Rank and At lead there and back, and back turns round.
func TestK6ThereAndBack(t *testing.T) {
	random := mix(9)
	b := New[int](4)
	for i := range 1000 {
		b.Set(fmt.Sprint(random.below(600)), random.below(50), i)
		if random.below(3) == 0 {
			b.Drop(fmt.Sprint(random.below(600)))
		}
	}
	n := b.Len()
	for i := range n {
		for _, back := range []bool{false, true} {
			e, ok := b.At(i, back)
			rank, is := b.Rank(e.Member, back)
			turned, was := b.Rank(e.Member, !back)
			if !ok || !is || !was || rank != i || turned != n-1-i {
				t.Fatalf("At(%d, %v) = %v; its ranks are %d and %d", i, back, e, rank, turned)
			}
			if got, ok := b.Get(e.Member); !ok || got != e {
				t.Fatalf("Get(%q) = %v; At tells %v", e.Member, got, e)
			}
		}
	}
	forward := b.Slice(0, n, false)
	slices.Reverse(forward)
	if back := b.Slice(0, n, true); !slices.Equal(back, forward) {
		t.Errorf("back is not the order turned round")
	}
}

// TestK6MembersAndScoresAlone: whatever calls led there, the order is the same.
func TestK6MembersAndScoresAlone(t *testing.T) {
	for round := range 50 {
		random := mix(round + 1)
		one, other := New[int](round), New[int](-round)
		for i := range 60 {
			other.Set(fmt.Sprint(random.below(90)), random.below(9), i)
			if random.below(4) == 0 {
				other.Drop(fmt.Sprint(random.below(90)))
			}
		}
		list := other.Slice(0, other.Len(), false)
		for i := range list {
			e := list[(i*7+round)%len(list)]
			if len(list)%7 == 0 {
				e = list[i]
			}
			one.Set(e.Member, e.Score, e.Value)
		}
		if got := one.Slice(0, len(list), false); !slices.Equal(got, list) {
			t.Fatalf("round %d: %v; want %v", round, got, list)
		}
	}
}

// script plays random calls on a Board and a list.
func script[V any](t *testing.T, make func(int) V, same func(V, V) bool) {
	for round := range 60 {
		random := mix(round + 77)
		p := newPair(t, seeds[round%len(seeds)], same)
		names := 1 + random.below(60)
		spread := 1 + random.below(30)
		name := func() string { return strings.Repeat("\x00", random.below(3)) + fmt.Sprint(random.below(names)) }
		for i := range 250 {
			switch what := random.below(16); {
			case what < 7:
				p.set(name(), random.below(spread)-spread/2, make(i))
			case what < 9:
				p.set(name(), greatScores[random.below(len(greatScores))], make(i))
			case what < 12:
				p.drop(name())
			case what < 13:
				p.one(name())
			case what < 14:
				p.at(random.below(names+4)-2, random.below(2) == 0)
				p.slice(random.below(names+4)-2, random.below(names+4)-2, random.below(2) == 0)
			default:
				playRanges(&random, p, name, spread)
			}
		}
		p.look("none")
	}
}

func playRanges[V any](random *mix, p *pair[V], name func() string, spread int) {
	inf := func() int { return []int{0, 0, 0, 0, -1, 1}[random.below(6)] }
	lo := api.Bound{Score: random.below(spread) - spread/2, Inf: inf(), Open: random.below(2) == 0}
	hi := api.Bound{Score: random.below(spread) - spread/2, Inf: inf(), Open: random.below(2) == 0}
	from := api.Lex{Text: name(), Inf: inf(), Open: random.below(2) == 0}
	to := api.Lex{Text: name(), Inf: inf(), Open: random.below(2) == 0}
	back, skip, most := random.below(2) == 0, random.below(12)-4, random.below(20)-4
	p.byScore(lo, hi, back, skip, most)
	p.byLex(from, to, back, skip, most)
	p.counts(lo, hi)
	p.countsLex(from, to)
}

// TestScripts: all calls against a plain list, with values of several types.
func TestScripts(t *testing.T) {
	script(t, func(i int) int { return i }, sameInts)
	script(t, func(i int) string { return fmt.Sprint(i) }, func(a, b string) bool { return a == b })
	script(t, func(int) struct{} { return struct{}{} }, func(a, b struct{}) bool { return true })
	script(t, func(i int) []int { return make([]int, i%4) }, func(a, b []int) bool { return slices.Equal(a, b) })
	script(t, func(i int) any { return i }, func(a, b any) bool { return a == b })
	script(t, func(i int) *int { return new(int) }, func(a, b *int) bool { return a == b })
	script(t, func(i int) func() int { return func() int { return i } }, func(a, b func() int) bool {
		return a == nil && b == nil || a != nil && b != nil && a() == b()
	})
	script(t, func(i int) float64 { return math.NaN() }, func(a, b float64) bool { return a != a && b != b || a == b })
}

// TestP2Alone: what is told is its caller's: written over and made longer, it shares nothing with the Board or another answer.
func TestP2Alone(t *testing.T) {
	p := newPair(t, 0, sameInts)
	for i := range 40 {
		p.set(fmt.Sprint("member ", i), i/4, i)
	}
	all, allBounds := api.Lex{Inf: 1}, api.Bound{Inf: 1}
	asks := []func() []Entry[int]{
		func() []Entry[int] { return p.b.Slice(3, 20, false) },
		func() []Entry[int] { return p.b.Slice(0, 90, true) },
		func() []Entry[int] { return p.b.Slice(5, 4, true) },
		func() []Entry[int] { return p.b.ByScore(api.Bound{Inf: -1}, allBounds, false, 2, 9) },
		func() []Entry[int] { return p.b.ByScore(api.Bound{Inf: -1}, allBounds, true, 0, 0) },
		func() []Entry[int] { return p.b.ByLex(api.Lex{Inf: -1}, all, false, 1, 5) },
		func() []Entry[int] { return p.b.ByLex(api.Lex{Inf: -1}, all, true, 0, -1) },
	}
	var kept, copies [][]Entry[int]
	for _, ask := range asks {
		answer := ask()
		kept, copies = append(kept, answer), append(copies, slices.Clone(answer))
	}
	for i, ask := range asks {
		answer := ask()
		spare := answer[:cap(answer)]
		for k := range spare {
			spare[k] = Entry[int]{"overwritten", -1, -1}
		}
		_ = append(answer, Entry[int]{"more", -2, -2})
		if again := ask(); !slices.Equal(again, copies[i]) {
			t.Errorf("call %d answers %v now; want %v", i, again, copies[i])
		}
	}
	for i := range kept {
		if !slices.Equal(kept[i], copies[i]) {
			t.Errorf("an earlier answer is %v now; want %v", kept[i], copies[i])
		}
	}
	tall := p.b.Tall()
	want := slices.Clone(tall)
	for i := range tall[:cap(tall)] {
		tall[:cap(tall)][i] = 99
	}
	if got := p.b.Tall(); !slices.Equal(got, want) {
		t.Errorf("Tall = %v; want %v", got, want)
	}
	p.look()
	p.set("member 7", 3, 5)
}

// TestP2Texts: a member's bytes are neither the caller's nor another answer's.
func TestP2Texts(t *testing.T) {
	b := New[int](0)
	bytes := []byte("a member")
	member := unsafe.String(&bytes[0], len(bytes))
	b.Set(member, 1, 1)
	bytes[0] = 'X'
	if _, ok := b.Get("a member"); !ok {
		t.Fatalf("the Board keeps the caller's bytes")
	}
	bytes[0] = 'a'
	b.Set(member, 2, 2)
	bytes[0] = 'X'
	if e, ok := b.At(0, false); !ok || e.Member != "a member" {
		t.Fatalf("the Board keeps the caller's bytes: %v", e)
	}
	seen := map[*byte]bool{unsafe.StringData(b.head.links[0].next.entry.Member): true}
	told := func(list ...Entry[int]) {
		for _, e := range list {
			if at := unsafe.StringData(e.Member); seen[at] {
				t.Errorf("%v shares its bytes", e)
			} else {
				seen[at] = true
			}
		}
	}
	for range 2 {
		e, _ := b.Get("a member")
		told(e)
		e, _ = b.At(0, true)
		told(e)
		told(b.Slice(0, 1, false)...)
		told(b.ByScore(api.Bound{Inf: -1}, api.Bound{Inf: 1}, false, 0, -1)...)
		told(b.ByLex(api.Lex{Inf: -1}, api.Lex{Inf: 1}, false, 0, -1)...)
	}
}

// TestP2TwoBoards: two Boards don't see each other, and answer alike whatever other ones were asked between.
func TestP2TwoBoards(t *testing.T) {
	one, other := newPair(t, 1, sameInts), newPair(t, 1, sameInts)
	random := mix(5)
	for i := range 200 {
		one.set(fmt.Sprint(random.below(30)), random.below(5), i)
		other.drop(fmt.Sprint(random.below(30)))
		other.set(fmt.Sprint(random.below(30)), random.below(5), -i)
	}
	one.look("none")
	other.look("none")
}

// TestP2AskingChangesNothing: of two Boards one is asked all the while, and both go on alike.
func TestP2AskingChangesNothing(t *testing.T) {
	asked, left := New[int](0), New[int](0)
	random := mix(3)
	for i := range 300 {
		member, score := fmt.Sprint(random.below(40)), random.below(6)
		asked.Set(member, score, i)
		left.Set(member, score, i)
		if i%3 == 0 {
			asked.Drop(fmt.Sprint(score))
			left.Drop(fmt.Sprint(score))
		}
		asked.Get(member)
		asked.Rank("none", true)
		asked.At(i, i%2 == 0)
		asked.Slice(-1, i, true)
		asked.ByScore(api.Bound{Score: 3}, api.Bound{Inf: 1}, true, 1, 2)
		asked.ByLex(api.Lex{Text: "2"}, api.Lex{Inf: 1}, true, 1, 2)
		asked.Count(api.Bound{Score: 3}, api.Bound{Inf: 1})
		asked.CountLex(api.Lex{Text: "2"}, api.Lex{Inf: 1})
		asked.Tall()
		if !slices.Equal(asked.Slice(0, 99, false), left.Slice(0, 99, false)) || !slices.Equal(asked.Tall(), left.Tall()) {
			t.Fatalf("behind %d calls: %v and %v", i, asked.Slice(0, 99, false), left.Slice(0, 99, false))
		}
		sound(t, asked)
	}
}

// TestP2AtOnce: Boards of several goroutines, and one Board that several ask.
func TestP2AtOnce(t *testing.T) {
	shared := New[int](0)
	for i := range 100 {
		shared.Set(fmt.Sprint(i), i%9, i)
	}
	want := shared.Slice(0, 99, false)
	var group sync.WaitGroup
	for worker := range 8 {
		group.Go(func() {
			own := New[int](0)
			for i := range 100 {
				own.Set(fmt.Sprint((i*7+worker)%100), i, i)
				own.Set(fmt.Sprint((i*7+worker)%100), (i*7+worker)%100%9, (i*7+worker)%100)
				shared.At(i, true)
				shared.Rank(fmt.Sprint(i), false)
				shared.ByLex(api.Lex{Inf: -1}, api.Lex{Inf: 1}, true, 0, 3)
			}
			if !slices.Equal(own.Slice(0, 99, false), want) {
				t.Errorf("worker %d: %v", worker, own.Slice(0, 99, false))
			}
		})
	}
	group.Wait()
}
