package dict

import (
	"fmt"
	"math"
	"slices"
	"strings"
	"sync"
	"testing"
	"unsafe"

	"cistern/api"
)

var seeds = []int{0, 1, 7, -1, 1 << 40, math.MinInt, math.MaxInt}

func sameInts(a, b int) bool { return a == b }

// TestP81HashNumbers: hashes that were reckoned elsewhere.
func TestP81HashNumbers(t *testing.T) {
	long := strings.Repeat("x", 1000)
	for _, c := range []struct {
		seed int
		s    string
		want int
	}{
		{0, "", 4807717020963836473},
		{0, "\x00", 4101813941564381544},
		{0, "a", 4708740786736531857},
		{0, "\xff", 1476598758016480793},
		{0, "foobar", 3703306683162193215},
		{0, long, 4050059828749858574},
		{1, "", 8330731658762649357},
		{1, "a", 7959445092483661580},
		{7, "\x00", 5313989491456765942},
		{7, "foobar", 7941862941536053706},
		{-1, "", 5640165250537535541},
		{-1, "\xff", 5745851524354231131},
		{-1, long, 6497888736232619230},
		{math.MinInt, "", 7100787021844388375},
		{math.MinInt, "foobar", 5996376701270713829},
		{math.MaxInt, "a", 1237731277321062502},
		{math.MaxInt, long, 8790958734680470772},
	} {
		if got := Hash(c.seed, c.s); got != c.want {
			t.Errorf("Hash(%d, %.10q) = %d; want %d", c.seed, c.s, got, c.want)
		}
	}
}

// TestP81HashByWords: the hash held against the chapter's words, of all single bytes, of all lengths up to 40, of long texts.
func TestP81HashByWords(t *testing.T) {
	var texts []string
	for b := range 256 {
		texts = append(texts, string([]byte{byte(b)}))
	}
	long := strings.Repeat("\x00\xff\x80 any text\n", 500)
	for n := range 41 {
		texts = append(texts, long[:n])
	}
	texts = append(texts, long, "äöü", "\xff\xfe")
	for _, seed := range append([]int{2, -2, -1 << 40}, seeds...) {
		for _, s := range texts {
			if got, want := Hash(seed, s), hashByWords(seed, s); got != want || got < 0 {
				t.Fatalf("Hash(%d, %.20q) = %d; want %d", seed, s, got, want)
			}
		}
	}
}

// TestP81New: a new dict has nothing; the seed of its keys' hashes is its own.
func TestP81New(t *testing.T) {
	orders := map[string]int{}
	for _, seed := range seeds {
		p := newPair(t, seed, sameInts)
		p.tables(0, 0, -1)
		p.look("", "a")
		for i := range 30 {
			p.set(fmt.Sprint("key", i), i)
		}
		p.d.Step(100)
		p.m.Step(100)
		p.look("")
		keys, _ := p.d.Scan(0, 1000)
		orders[strings.Join(keys, " ")]++
	}
	if len(orders) != len(seeds) {
		t.Errorf("%d seeds, but %d orders", len(seeds), len(orders))
	}
}

func TestExamples(t *testing.T) {
	p := newPair(t, 0, sameInts)
	p.tables(0, 0, -1)
	if keys, next := p.d.Scan(0, 10); len(keys) != 0 || next != 0 {
		t.Errorf("Scan of nothing = %q, %d", keys, next)
	}
	for i := range 4 {
		p.set(fmt.Sprint(i), i)
		p.tables(4, 0, -1)
	}
	p.set("4", 4)
	p.tables(4, 8, 0)
	if p.d.second.find(Hash(0, "4"), "4") == nil {
		t.Errorf("the fifth key is not in the second table")
	}
	before := p.d.second.count
	p.set("4", 5)
	if p.d.second.count == before {
		t.Errorf("the next Set moves nothing")
	}
	for _, c := range [][3]int{{0, 4, 2}, {2, 4, 1}, {1, 4, 3}, {3, 4, 0}} {
		if got := next(c[0], c[1]); got != c[2] {
			t.Errorf("next(%d, of size %d) = %d; want %d", c[0], c[1], got, c[2])
		}
	}
}

// TestP82Set: new keys and such as are there, where no table is, where a move begins, goes on, ends.
func TestP82Set(t *testing.T) {
	p := newPair(t, 0, sameInts)
	first := keysIn(0, 4, 1, 3)
	other := keysIn(0, 4, 3, 3)
	p.set(first[0], 1)
	p.tables(4, 0, -1)
	p.set(first[0], 2) // one that is there makes nothing grow
	p.set(first[1], 3)
	p.set(other[0], 4)
	p.set(other[1], 5)
	p.tables(4, 0, -1)
	p.set(other[1], 6) // nor if there are as many keys as buckets
	p.tables(4, 0, -1)
	p.set(other[2], 7)
	p.tables(4, 8, 0)
	p.look()
	p.set(first[1], 8) // its step moves it ahead of its new value
	p.tables(4, 8, 2)
	p.look()
	q := p.twin()
	p.set(first[0], 9) // its step ends the move
	p.tables(8, 0, -1)
	p.look()
	q.set(first[2], 9) // so does that of a new key, which joins the first table then
	q.tables(8, 0, -1)
	if q.d.first.count != 6 {
		t.Errorf("%d keys of 6 in the first table", q.d.first.count)
	}
	q.look()
}

// twin is a pair that is as this one.
func (p *pair[V]) twin() *pair[V] {
	twin := *p
	m := *p.m
	m.first, m.second = p.m.first.copy(), p.m.second.copy()
	twin.d, twin.m = p.d.Clone(), &m
	return &twin
}

func (p *plain[V]) copy() *plain[V] {
	twin := newPlain[V](p.size)
	for key, hash := range p.hashes {
		twin.put(key, hash, p.values[key])
	}
	return twin
}

// TestP82SetInFirst: while a move goes on, a key that has not been moved yet is given its value where it stands.
func TestP82SetInFirst(t *testing.T) {
	p := newPair(t, 0, sameInts)
	var keys []string
	for bucket := range 4 {
		keys = append(keys, keysIn(0, 4, bucket, 1)...)
	}
	for i, key := range keys {
		p.set(key, i)
	}
	p.set("new", 9)
	p.tables(4, 8, 0)
	p.set(keys[3], 99)
	p.tables(4, 8, 1)
	if p.d.first.find(Hash(0, keys[3]), keys[3]) == nil {
		t.Errorf("%q does not stand in the first table any more", keys[3])
	}
	p.look()
}

// TestP82MoreKeysThanBuckets: a move to a smaller table ends with more keys than buckets; a new key makes it grow then,
// one that is there does not; and a Set whose step ends one move begins the next one.
func TestP82MoreKeysThanBuckets(t *testing.T) {
	p := newPair(t, 0, sameInts)
	var keys []string
	for bucket := range 4 {
		keys = append(keys, keysIn(0, 32, 5+bucket, 1)...)
	}
	p.shrinkTo(32, 4, keys)
	for i := range 3 {
		p.set(fmt.Sprint("new", i), i)
	}
	p.tables(32, 4, 8)
	q := p.twin()
	p.step()
	p.tables(4, 0, -1)
	if p.d.Len() != 7 {
		t.Fatalf("%d keys", p.d.Len())
	}
	p.set("new0", 5)
	p.tables(4, 0, -1)
	p.set("new3", 5)
	p.tables(4, 8, 0)
	p.look()
	q.set("new3", 5)
	q.tables(4, 8, 0)
	q.look()
}

// shrinkTo fills the pair up to a first table of a size and deletes all but an eighth as many keys, which are given: a move
// to a smaller size begins.
func (p *pair[V]) shrinkTo(size, to int, keys []string) {
	p.t.Helper()
	var v V
	for _, key := range keys {
		p.set(key, v)
	}
	var others []string
	for i := 0; p.d.first.size() < size || p.d.moves(); i++ {
		other := fmt.Sprint("other", i)
		others = append(others, other)
		p.set(other, v)
	}
	for _, other := range others {
		p.delete(other)
	}
	p.tables(size, to, 0)
}

// TestP83Empty: what is asked of an empty dict, without tables and with one.
func TestP83Empty(t *testing.T) {
	p := newPair(t, 3, func(a, b string) bool { return a == b })
	p.look("", "a")
	p.set("a", "text")
	p.look("", "a")
	p.delete("a")
	p.tables(4, 0, -1)
	p.look("", "a")
	for cursor := range 9 {
		if keys, next := p.d.Scan(cursor, 1); len(keys) != 0 || next != 0 {
			t.Errorf("Scan(%d, 1) = %q, %d; want none, 0", cursor, keys, next)
		}
	}
}

// TestP83ChangeNothing: Get, Len, Keys, Tables and Scan make no step, and two dicts, one of which was asked, go on alike.
func TestP83ChangeNothing(t *testing.T) {
	asked, left := New[int](5), New[int](5)
	same := func(i int) {
		t.Helper()
		a, b, c := asked.Tables()
		d, e, f := left.Tables()
		if a != d || b != e || c != f {
			t.Fatalf("behind %d calls: tables %d %d %d; of one that was not asked %d %d %d", i, a, b, c, d, e, f)
		}
	}
	for i := range 300 {
		key := fmt.Sprint(i * 7 % 100)
		if i%3 == 2 {
			asked.Delete(key)
			left.Delete(key)
		} else {
			asked.Set(key, i)
			left.Set(key, i)
		}
		for cursor := range 20 {
			asked.Get(fmt.Sprint(cursor))
			asked.Get("none")
			asked.Len()
			asked.Keys()
			asked.Tables()
			asked.Scan(cursor, i)
			asked.Clone()
		}
		same(i)
	}
}

// TestP84Delete: keys that are not there, such as stand in the first table and in the second, the last of the first.
func TestP84Delete(t *testing.T) {
	p := newPair(t, 0, sameInts)
	p.delete("")
	p.delete("a")
	p.tables(0, 0, -1)
	var keys []string
	for bucket := range 4 {
		keys = append(keys, keysIn(0, 4, bucket, 1)...)
	}
	for i, key := range keys {
		p.set(key, i)
	}
	p.delete("none")
	p.set("new", 4)
	p.tables(4, 8, 0)
	p.delete("none") // makes its step all the same
	p.tables(4, 8, 1)
	q := p.twin()
	p.delete(keys[0]) // has been moved
	p.tables(4, 8, 2)
	p.look(keys...)
	p.delete(keys[3]) // stands in the first table, behind the step's bucket, as its last one
	p.tables(8, 0, -1)
	p.look(keys...)
	q.delete(keys[3])
	q.tables(4, 8, 2)
	q.look(keys...)
	q.delete("none") // its step ends the move
	q.tables(8, 0, -1)
	q.delete(keys[3])
	q.look(keys...)
}

// TestP84Smaller: at an eighth, not above it, a move to the least size begins that holds the keys.
func TestP84Smaller(t *testing.T) {
	for size := 8; size <= 256; size *= 2 {
		p := newPair(t, 0, sameInts)
		i := 0
		for ; p.d.first.size() < size || p.d.moves(); i++ {
			p.set(fmt.Sprint(i), i)
		}
		for p.d.Len() > size/8+1 {
			i--
			p.delete(fmt.Sprint(i))
			p.tables(size, 0, -1)
		}
		p.delete("none")
		p.tables(size, 0, -1)
		p.delete("0")
		want := max(4, size/8)
		p.tables(size, want, 0)
		p.look()
		p.d.Step(size)
		p.m.Step(size)
		p.tables(want, 0, -1)
		p.look()
	}
}

// TestP84NotFull: the size that is moved to is the least power of two that is not less than the keys, also where they are
// far fewer than an eighth, as a move that went on kept them from being looked at.
func TestP84NotFull(t *testing.T) {
	for count := range 17 {
		p := newPair(t, 0, sameInts)
		for i := range 128 {
			p.set(fmt.Sprint(i), i)
		}
		p.d.Step(100)
		p.m.Step(100)
		p.set("more", 0)
		p.tables(128, 256, 0)
		for i := 0; p.d.moves() && p.d.Len() > count+1; i++ {
			p.delete(fmt.Sprint(i))
		}
		for p.d.Len() > count+1 {
			p.delete(p.d.Keys()[0])
		}
		p.d.Step(1000)
		p.m.Step(1000)
		p.delete(p.d.Keys()[0])
		p.look()
		p.d.Step(1000)
		p.m.Step(1000)
		p.look()
	}
}

// TestP84DownToNothing: from all sizes down to no key; a table of size 4 stays.
func TestP84DownToNothing(t *testing.T) {
	for count := 1; count <= 140; count++ {
		p := newPair(t, count, sameInts)
		for i := range count {
			p.set(fmt.Sprint(i), i)
		}
		for i := range count {
			p.delete(fmt.Sprint((i + count/2) % count))
			p.delete("none")
		}
		if p.d.Len() != 0 || p.d.moves() {
			t.Errorf("%d keys: %d left, a move goes on: %v", count, p.d.Len(), p.d.moves())
		}
		p.look("0")
		p.set("again", 1)
		p.look()
	}
}

// TestP84EndsAndBegins: a Delete that takes the last key of the first table ends the move, and begins one to a smaller table
// where the second one has few keys.
func TestP84EndsAndBegins(t *testing.T) {
	for size := 8; size <= 64; size *= 2 {
		p := newPair(t, 0, sameInts)
		var keys []string
		for bucket := range size {
			keys = append(keys, keysIn(0, size, bucket, 1)[0])
			p.set(keys[bucket], bucket)
		}
		p.d.Step(size)
		p.m.Step(size)
		p.set("new", 0)
		p.tables(size, 2*size, 0)
		p.delete("new")
		for bucket := range size - 3 { // each has been moved by the call ahead
			p.delete(keys[bucket])
		}
		p.tables(size, 2*size, size-2)
		p.delete(keys[size-1])
		p.tables(2*size, 4, 0)
		p.look()
	}
}

// TestP84EndsAtOnce: a Delete that leaves nothing in a table above 4 ends the move that it begins.
func TestP84EndsAtOnce(t *testing.T) {
	p := newPair(t, 0, sameInts)
	keys := keysIn(0, 4, 2, 4)
	for i, key := range keys {
		p.set(key, i)
	}
	p.set("new", 4)
	p.tables(4, 8, 0)
	for _, key := range keys {
		p.delete(key)
	}
	p.tables(8, 4, 0)
	p.step()
	p.tables(4, 0, -1)

	// Two keys in the first table of 8, which a Delete brings to none: its step moves the last one, and it is deleted in
	// the second table.
	p = newPair(t, 0, sameInts)
	p.shrinkTo(8, 4, keys[:1])
	p.delete(keys[0])
	p.tables(4, 0, -1)
	if p.d.Len() != 0 {
		t.Errorf("%d keys left", p.d.Len())
	}

	// The step ends a move to a larger table, from which the Delete takes the only key: the move that it begins has
	// nothing to move.
	d := New[int](0)
	d.first, d.second = newTable[int](4), newTable[int](8)
	d.first.add(Hash(0, "a"), entry[int]{key: "a"})
	if !d.Delete("a") {
		t.Errorf("Delete finds nothing")
	}
	if a, b, c := d.Tables(); a != 4 || b != 0 || c != -1 {
		t.Errorf("Tables() = %d, %d, %d; want 4, 0, -1", a, b, c)
	}
}

// TestP85Step: none, one, many, with a move and without one.
func TestP85Step(t *testing.T) {
	start := newPair(t, 0, sameInts)
	for _, n := range []int{math.MinInt, -1, 0, 1, math.MaxInt} {
		start.d.Step(n)
		start.tables(0, 0, -1)
	}
	for bucket := range 16 {
		if bucket%3 != 1 {
			for _, key := range keysIn(0, 16, bucket, 2)[:1+bucket%2] {
				start.set(key, bucket)
			}
		}
	}
	start.d.Step(50)
	start.m.Step(50)
	start.set("more", 1)
	for i := 0; !start.d.moves(); i++ {
		start.set(fmt.Sprint("more", i), 1)
	}
	start.tables(16, 32, 0)
	for _, n := range []int{math.MinInt, -5, -1, 0} {
		start.d.Step(n)
		start.tables(16, 32, 0)
	}
	for n := 1; n < 20; n++ {
		once, single := start.twin(), start.twin()
		once.d.Step(n)
		once.m.Step(n)
		once.did("Step", true, true)
		once.look()
		for range n {
			single.step()
		}
		a, b, c := single.d.Tables()
		once.tables(a, b, c)
	}
	start.d.Step(math.MaxInt)
	start.tables(32, 0, -1)
	start.d.Step(math.MaxInt)
	start.tables(32, 0, -1)
}

// TestP85StepIndex: a step passes empty buckets, and the index stands behind the one that it moved.
func TestP85StepIndex(t *testing.T) {
	p := newPair(t, 0, sameInts)
	keys := append(keysIn(0, 64, 20, 5), keysIn(0, 64, 63, 3)...)
	p.shrinkTo(64, 8, keys)
	p.step()
	p.tables(64, 8, 21)
	p.look()
	p.step()
	p.tables(8, 0, -1)
	p.look()
}

// TestP86Next: the cursor behind each one, at all sizes up to 2^12, beyond the size too, and at great sizes.
func TestP86Next(t *testing.T) {
	for b := 2; b <= 12; b++ {
		seen := make([]int, 1<<b)
		c := 0
		for range 1 << b {
			seen[c]++
			if got, want := next(c, 1<<b), nextByWords(c, b); got != want {
				t.Fatalf("next(%d, %d bits) = %d; want %d", c, b, got, want)
			}
			if beyond := next(c+1<<b, 1<<b); beyond != next(c, 1<<b) {
				t.Fatalf("next(%d, %d bits) = %d", c+1<<b, b, beyond)
			}
			c = next(c, 1<<b)
		}
		if c != 0 || slices.Max(seen) != 1 {
			t.Errorf("%d bits: not every cursor is gone through once", b)
		}
	}
	for b := 13; b <= 40; b++ {
		for _, c := range []int{0, 1, 1<<b - 1, 1 << (b - 1), 0x5555555555555555, math.MaxInt} {
			if got, want := next(c, 1<<b), nextByWords(c, b); got != want {
				t.Errorf("next(%d, %d bits) = %d; want %d", c, b, got, want)
			}
		}
	}
}

// TestP86Scan: every cursor and number of keys, at each state of moves to larger and to smaller tables.
func TestP86Scan(t *testing.T) {
	for _, seed := range []int{0, 12, -3} {
		p := newPair(t, seed, sameInts)
		for i := range 40 {
			p.set(fmt.Sprint(i), i)
			p.look()
		}
		for i := range 40 {
			p.delete(fmt.Sprint(i))
			p.look()
		}
		p.shrinkTo(64, 8, strings.Fields("a b c d e f g h"))
		for range 8 {
			p.look()
			p.step()
		}
		p.tables(8, 0, -1)
	}
}

// TestP86Rising: keys of one bucket are told rising as bytes, in whatever order they came.
func TestP86Rising(t *testing.T) {
	keys := keysIn(0, 4096, 77, 4)
	slices.Sort(keys)
	for _, order := range [][]int{{0, 1, 2, 3}, {3, 2, 1, 0}, {2, 0, 3, 1}, {1, 3, 0, 2}} {
		d := New[int](0)
		for _, i := range order {
			d.Set(keys[i], i)
		}
		got, next := d.Scan(77&3, 4)
		if !slices.Equal(got, keys) || next == 0 && 77&3 != 3 {
			t.Errorf("order %v: Scan = %q, %d; want %q", order, got, next, keys)
		}
	}
	p := newPair(t, 0, sameInts)
	for _, key := range []string{"", "\x00", "\x00\x00", "\xff", "a", "a\x00", "ab", "b", "\x80", "ä"} {
		p.set(key, 1)
		p.look()
	}
}

// walk goes from cursor 0 to cursor 0, and calls between each two Scans.
func walk(t *testing.T, d *Dict[int], n func() int, between func()) ([]string, int) {
	t.Helper()
	var met []string
	cursor := 0
	for scans := 1; ; scans++ {
		keys, next := d.Scan(cursor, n())
		met = append(met, keys...)
		if next == 0 {
			return met, scans
		}
		if scans > 1<<20 {
			t.Fatal("it doesn't end")
		}
		cursor = next
		between()
	}
}

// churn lets keys come and go in a dict, beside some that stay.
type churn struct {
	d      *Dict[int]
	random mix
	stay   int
	going  []string       // the others that are there
	ever   map[string]int // all that were there since the beginning
	seen   map[[2]int]int // how often it was changed with tables of two sizes
}

func newChurn(seed, stay int, seen map[[2]int]int) *churn {
	c := &churn{d: New[int](seed), random: mix(seed*2654435761 + 1), stay: stay, ever: map[string]int{}, seen: seen}
	for i := range stay {
		c.d.Set(fmt.Sprint("stay", i), i)
		c.ever[fmt.Sprint("stay", i)]++
	}
	return c
}

// change lets keys come, up to a number of them, or go, down to a number; steps between.
func (c *churn) change(to int) {
	for len(c.going) != to {
		size, second, _ := c.d.Tables()
		c.seen[[2]int{size, second}]++
		if c.random.below(20) == 0 {
			c.d.Step(c.random.below(4))
		}
		if i := c.random.below(1 + len(c.going)); len(c.going) < to {
			key := fmt.Sprint("go", c.random.below(1<<30))
			if c.d.Set(key, i) {
				c.going = append(c.going, key)
				c.ever[key]++
			}
		} else if i < len(c.going) {
			c.d.Delete(c.going[i])
			c.going = slices.Delete(c.going, i, i+1)
		}
	}
}

// walked scans the dict from 0 to 0 with changes between, and fails if one that stays is missed, or one was never there.
func (c *churn) walked(t *testing.T, n func() int, between func()) {
	t.Helper()
	clear(c.ever)
	for _, key := range c.d.Keys() {
		c.ever[key]++
	}
	met, _ := walk(t, c.d, n, between)
	seen := map[string]int{}
	for _, key := range met {
		seen[key]++
		if c.ever[key] == 0 {
			t.Fatalf("seed %d: %q was never there", c.d.seed, key)
		}
	}
	for i := range c.stay {
		if key := fmt.Sprint("stay", i); seen[key] == 0 {
			t.Fatalf("seed %d: %s of %d is missed", c.d.seed, key, c.stay)
		}
	}
}

// TestP87NothingIsMissed: scans between which keys come and go, and moves begin, go on and end, at many sizes.
func TestP87NothingIsMissed(t *testing.T) {
	seen := map[[2]int]int{}
	for round := range 2000 {
		random := mix(round*40503 + 1)
		c := newChurn(round, random.below(1+random.below(20)), seen)
		top := 1 + random.below(400)
		for range 3 {
			c.change(random.below(top))
			c.walked(t, func() int { return random.below(1 + random.below(12)) }, func() {
				switch random.below(4) {
				case 0:
					c.change(random.below(top))
				case 1:
					c.change(random.below(8))
				case 2:
					c.d.Step(random.below(20))
				}
			})
		}
	}
	for size := 4; size <= 256; size *= 2 {
		if seen[[2]int{size, 2 * size}] < 100 || seen[[2]int{2 * size, max(4, size/4)}] < 50 {
			t.Errorf("size %d: changed in %d moves to twice as many buckets; %d from twice", size, seen[[2]int{size, 2 * size}], seen[[2]int{2 * size, max(4, size/4)}])
		}
	}
}

// TestP87AllChanges: between two Scans the dict goes from any number of keys to any other one and back.
func TestP87AllChanges(t *testing.T) {
	counts := []int{0, 1, 2, 3, 5, 7, 9, 12, 15, 18, 25, 31, 34, 45, 61, 66, 100, 127, 130, 200}
	for a, from := range counts {
		for b, to := range counts {
			for _, n := range []int{1, 6} {
				for _, steps := range []int{0, 3, math.MaxInt} {
					c := newChurn(a*len(counts)+b, 3, map[[2]int]int{})
					c.change(from)
					turn := 0
					c.walked(t, func() int { return n }, func() {
						turn++
						c.change([]int{from, to}[turn%2])
						c.d.Step(steps)
					})
				}
			}
		}
	}
}

// TestP88Ends: of a dict that is not changed each key is met, at most as many Scans as the larger table has buckets are
// needed, and none is met twice without a move.
func TestP88Ends(t *testing.T) {
	random := mix(11)
	d := New[int](4)
	grows := true
	moving, resting := 0, 0
	for i := range 4000 {
		if i%400 == 399 {
			grows = !grows
		}
		if key := fmt.Sprint(random.below(500)); grows {
			d.Set(key, i)
		} else {
			d.Delete(key)
		}
		for _, n := range []int{-1, 1, 2, 10} {
			met, scans := walk(t, d, func() int { return n }, func() {})
			size, to, _ := d.Tables()
			if scans > max(size, to) {
				t.Fatalf("tables %d, %d: %d Scans", size, to, scans)
			}
			slices.Sort(met)
			if to == 0 && !slices.Equal(met, d.Keys()) {
				t.Fatalf("tables %d, %d: met %q", size, to, met)
			}
			if !slices.Equal(slices.Compact(met), d.Keys()) {
				t.Fatalf("tables %d, %d: met %q", size, to, met)
			}
			if to == 0 {
				resting++
			} else {
				moving++
			}
		}
	}
	if moving < 100 || resting < 100 {
		t.Errorf("%d scans in moves, %d without", moving, resting)
	}
}

// TestP88AsManyScans: the bound is reached where every bucket has a key.
func TestP88AsManyScans(t *testing.T) {
	d := New[int](0)
	for bucket := range 16 {
		d.Set(keysIn(0, 16, bucket, 1)[0], 1)
	}
	d.Step(100)
	if _, scans := walk(t, d, func() int { return 1 }, func() {}); scans != 16 {
		t.Errorf("%d Scans of 16 full buckets", scans)
	}
	if met, scans := walk(t, d, func() int { return 16 }, func() {}); scans != 1 || len(met) != 16 {
		t.Errorf("%d Scans of 16 full buckets by 16", scans)
	}
	if met, scans := walk(t, d, func() int { return 15 }, func() {}); scans != 2 || len(met) != 16 {
		t.Errorf("%d Scans of 16 full buckets by 15", scans)
	}
}

// play makes a random call on each of the pairs.
func play[V any](random *mix, make func(int) V, names int, grows bool, pairs ...*pair[V]) {
	key := fmt.Sprint(random.below(names))
	what := random.below(10)
	v := make(random.below(1000))
	for _, p := range pairs {
		switch {
		case what == 0:
			p.step()
		case what < 3 || what > 7 && !grows:
			p.delete(key)
		case grows || what == 7:
			p.set(key, v)
		default:
			p.delete(key)
		}
	}
}

// TestP89Clone: a clone made at any time answers as the dict would, and neither sees what is done with the other.
func TestP89Clone(t *testing.T) {
	one := func(i int) int { return i }
	moving, resting := 0, 0
	for round := range 120 {
		random := mix(round + 1)
		p := newPair(t, round, sameInts)
		names := 1 + random.below(120)
		for range random.below(300) {
			play(&random, one, names, round%3 != 0, p)
		}
		if p.d.moves() {
			moving++
		} else {
			resting++
		}
		twin := p.twin()
		for range 40 {
			play(&random, one, names, round%2 == 0, p, twin)
		}
		twin.look()
		p.look()
		for range 100 { // each goes its own way now
			play(&random, one, names, false, p)
			play(&random, one, names, true, twin)
		}
		third := p.twin()
		for range 50 {
			play(&random, one, names, true, p)
		}
		twin.look()
		third.look()
		p.look()
	}
	if moving < 10 || resting < 10 {
		t.Errorf("%d clones in moves, %d without", moving, resting)
	}
}

// TestP89CloneOfNone: of a dict without tables; both get their own.
func TestP89CloneOfNone(t *testing.T) {
	d := New[string](9)
	twin := d.Clone()
	d.Set("a", "x")
	if twin.Len() != 0 || !twin.Set("a", "y") {
		t.Errorf("the clone sees what the dict was given")
	}
	if v, _ := d.Get("a"); v != "x" {
		t.Errorf("the dict has %q", v)
	}
	if twin.seed != 9 {
		t.Errorf("the clone has the seed %d", twin.seed)
	}
}

// TestP89CopiedByAssignment: what a value points to is the same in both; what it is itself is not.
func TestP89CopiedByAssignment(t *testing.T) {
	type both struct {
		number [2]int
		shared *int
	}
	at := 1
	d := New[both](0)
	d.Set("a", both{[2]int{1, 2}, &at})
	twin := d.Clone()
	d.Set("a", both{[2]int{3, 4}, nil})
	if v, ok := twin.Get("a"); !ok || v.number != [2]int{1, 2} || v.shared != &at {
		t.Errorf("the clone has %v", v)
	}
}

// TestP810Measure: long rows of Sets, Deletes and Steps, by which tables grow and shrink, beside the model; it is the
// pair that watches the measure.
func TestP810Measure(t *testing.T) {
	for round := range 200 {
		random := mix(round + 1000)
		p := newPair(t, -round, sameInts)
		names := 1 + random.below(250)
		grows := true
		for i := range 500 {
			if random.below(80) == 0 {
				grows = !grows
			}
			play(&random, func(i int) int { return i }, names, grows, p)
			if i%100 == 99 {
				p.look("none")
			}
		}
	}
}

// TestP810SetsAlone: the fastest growth there is; each move ends before the table behind it is full twice over.
func TestP810SetsAlone(t *testing.T) {
	d := New[int](0)
	var m measure
	for i := range 1 << 16 {
		d.Set(fmt.Sprint(i), i)
		a, b, c := d.Tables()
		m.called(t, d.Len(), a, b, c)
	}
	for i := range 1 << 16 {
		d.Delete(fmt.Sprint(i))
		a, b, c := d.Tables()
		m.called(t, d.Len(), a, b, c)
	}
}

// TestP810Full: as many keys as a value may have elements.
func TestP810Full(t *testing.T) {
	d := New[int](0)
	for i := range api.MaxCount {
		d.Set(fmt.Sprint(i), i)
	}
	a, b, _ := d.Tables()
	if d.Len() != api.MaxCount || max(a, b) != api.MaxCount {
		t.Errorf("%d keys, tables %d, %d", d.Len(), a, b)
	}
	keys := d.Keys()
	if len(keys) != api.MaxCount || !slices.IsSorted(keys) {
		t.Errorf("%d keys are told", len(keys))
	}
	met, _ := walk(t, d, func() int { return 1000 }, func() {})
	slices.Sort(met)
	if len(slices.Compact(met)) != api.MaxCount {
		t.Errorf("%d keys are met", len(met))
	}
	for _, key := range keys {
		if !d.Delete(key) {
			t.Fatalf("%q is not there", key)
		}
	}
	if a, b, c := d.Tables(); a != 4 || b != 0 || c != -1 || d.Len() != 0 {
		t.Errorf("%d keys left; tables %d, %d, %d", d.Len(), a, b, c)
	}
}

// TestLongKeys: keys of any bytes and of great length, which differ at their ends alone.
func TestLongKeys(t *testing.T) {
	p := newPair(t, 0, sameInts)
	long := strings.Repeat("\xff\x00", api.MaxElement/2)
	for i, key := range []string{long, long[:len(long)-1], long[1:], "", "\x00", "\xff"} {
		p.set(key, i)
	}
	p.look()
	p.delete(long)
	p.look(long)
}

// all drives a dict of values of one type.
func all[V any](t *testing.T, name string, make func(int) V, same func(V, V) bool) {
	t.Run(name, func(t *testing.T) {
		random := mix(77)
		p := newPair(t, 2, same)
		for i := range 600 {
			play(&random, make, 60, i%200 < 120, p)
			if i%20 == 0 {
				p.look("none", "")
			}
		}
		v, ok := p.d.Get("none")
		var none V
		if ok || !same(v, none) {
			t.Errorf("Get of a key that is not there = %v, %v", v, ok)
		}
		for _, key := range p.d.Keys() {
			p.delete(key)
		}
		p.look()
	})
}

type large struct {
	numbers [20]int
	text    string
}

// TestValues: the same with values of different types.
func TestValues(t *testing.T) {
	all(t, "string", func(i int) string { return fmt.Sprint(i) }, func(a, b string) bool { return a == b })
	all(t, "bool", func(i int) bool { return i%2 == 0 }, func(a, b bool) bool { return a == b })
	all(t, "float", func(i int) float64 { return math.Sqrt(float64(i)) }, func(a, b float64) bool { return a == b })
	all(t, "struct{}", func(i int) struct{} { return struct{}{} }, func(a, b struct{}) bool { return true })
	all(t, "large", func(i int) large { return large{[20]int{3: i}, fmt.Sprint(i)} }, func(a, b large) bool { return a == b })
	all(t, "slice", func(i int) []int { return []int{i} }, slices.Equal[[]int])
	all(t, "pointer", func(i int) *int { return &i }, func(a, b *int) bool { return a == b })
	all(t, "func", func(i int) func() int { return func() int { return i } }, func(a, b func() int) bool {
		return a == nil && b == nil || a != nil && b != nil && a() == b()
	})
	all(t, "any", func(i int) any { return []any{i, fmt.Sprint(i), nil, 2.5}[i%4] }, func(a, b any) bool { return a == b })
	all(t, "dict", func(i int) *Dict[int] { return New[int](i) }, func(a, b *Dict[int]) bool { return a == b })
}

func filled(count int) *Dict[int] {
	d := New[int](0)
	for i := range count {
		d.Set(fmt.Sprint("a key that is long enough ", i), i)
	}
	return d
}

// TestP2AnswersAreTheCallers: what Keys and Scan told may be changed, spare room too.
func TestP2AnswersAreTheCallers(t *testing.T) {
	for _, count := range []int{3, 5, 40} {
		d := filled(count)
		want := d.Keys()
		order, _ := d.Scan(0, 1000)
		for range 3 {
			for _, list := range [][]string{d.Keys(), first(d.Scan(0, 1000)), first(d.Scan(0, 2))} {
				list = list[:cap(list)]
				for i := range list {
					list[i] = "changed"
				}
			}
			if got := d.Keys(); !slices.Equal(got, want) {
				t.Errorf("Keys = %q; want %q", got, want)
			}
			if got := first(d.Scan(0, 1000)); !slices.Equal(got, order) {
				t.Errorf("Scan = %q; want %q", got, order)
			}
		}
	}
}

func first(keys []string, _ int) []string { return keys }

// TestP2TextsAreTheCallers: the texts that are told share no memory with those that are kept, nor with each other.
func TestP2TextsAreTheCallers(t *testing.T) {
	d := filled(5)
	seen := map[*byte]int{}
	for _, tab := range []*table[int]{&d.first, &d.second} {
		for _, b := range tab.buckets {
			for _, e := range b {
				seen[unsafe.StringData(e.key)]++
			}
		}
	}
	for _, list := range [][]string{d.Keys(), d.Keys(), first(d.Scan(0, 9)), first(d.Scan(0, 9))} {
		for _, key := range list {
			seen[unsafe.StringData(key)]++
		}
	}
	if len(seen) != 5*d.Len() {
		t.Errorf("%d texts of %d have memory of their own", len(seen), 5*d.Len())
	}
}

// TestP2KeysAreNotKept: a key that is handed in may be changed behind the call.
func TestP2KeysAreNotKept(t *testing.T) {
	bytes := []byte("key")
	key := unsafe.String(&bytes[0], len(bytes))
	d := New[int](0)
	d.Set(key, 1)
	copy(bytes, "xxx")
	if v, ok := d.Get("key"); v != 1 || !ok || !slices.Equal(d.Keys(), []string{"key"}) {
		t.Errorf("Get = %d, %v; Keys = %q", v, ok, d.Keys())
	}
	copy(bytes, "key")
	d.Set(key, 2)
	copy(bytes, "xxx")
	if v, ok := d.Get("key"); v != 2 || !ok || d.Len() != 1 {
		t.Errorf("Get = %d, %v; Keys = %q", v, ok, d.Keys())
	}
}

// TestBucketsHandedOn: a bucket that is handed on has no spare room.
func TestBucketsHandedOn(t *testing.T) {
	d := New[int](0)
	for i, key := range keysIn(0, 4, 1, 3) {
		d.Set(key, i)
	}
	if b := d.first.bucket(1); len(b) != 3 || cap(b) != 3 {
		t.Errorf("a bucket of %d with room for %d", len(b), cap(b))
	}
}

// TestP2Alone: dicts at the same time in many goroutines, and one that many ask, answer as they would alone.
func TestP2Alone(t *testing.T) {
	run := func() string {
		d := New[int](6)
		random := mix(5)
		var told strings.Builder
		for i := range 2000 {
			key := fmt.Sprint(random.below(150))
			if i%500 < 300 {
				fmt.Fprint(&told, d.Set(key, i))
			} else {
				fmt.Fprint(&told, d.Delete(key))
			}
			if i%50 == 0 {
				fmt.Fprint(&told, d.Keys())
				fmt.Fprint(&told, first(d.Scan(i, 20)))
			}
		}
		return told.String()
	}
	want := run()
	asked := filled(37)
	keys := asked.Keys()
	var group sync.WaitGroup
	for range 8 {
		group.Go(func() {
			if got := run(); got != want {
				t.Error("another answer beside others")
			}
		})
		group.Go(func() {
			for i := range 200 {
				if v, ok := asked.Get(keys[i%len(keys)]); !ok || v > 37 || !slices.Equal(asked.Keys(), keys) {
					t.Error("another answer beside others")
				}
				asked.Scan(i, 5)
				asked.Clone().Delete(keys[0])
			}
		})
	}
	group.Wait()
}
