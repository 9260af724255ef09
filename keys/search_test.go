package keys

import (
	"fmt"
	"slices"
	"strings"
	"testing"

	"cistern/api"
	"cistern/keyspace"
)

// withNames is a trial whose database 0 has strings under the names of a line.
func withNames(t testing.TB, names string) *trial {
	t.Helper()
	p := newTrial(t, someLimits())
	for _, name := range split(names) {
		p.give(0, name, api.KindString, "x")
	}
	p.give(1, "elsewhere", api.KindString, "x")
	return p
}

// TestKY1Keys: patterns of each sort; what matches is told rising as bytes.
func TestKY1Keys(t *testing.T) {
	p := withNames(t, `b a ab B abc 10 9 1 "" * "a*" "[a]" "a\\b" "\xff" "\x00"`)
	for _, c := range []struct{ pattern, want string }{
		{"*", "[$ $\x00 $* $1 $10 $9 $B $[a] $a $a* $a\\b $ab $abc $b $\xff]"}, {"**", "[$ $\x00 $* $1 $10 $9 $B $[a] $a $a* $a\\b $ab $abc $b $\xff]"}, {"", "[$]"}, {"?", "[$\x00 $* $1 $9 $B $a $b $\xff]"}, {"a", "[$a]"}, {"A", "[]"}, {"b", "[$b]"}, {"B", "[$B]"}, {"a*", "[$a $a* $a\\b $ab $abc]"}, {"*b", "[$a\\b $ab $b]"}, {"a?", "[$a* $ab]"}, {"a?*", "[$a* $a\\b $ab $abc]"}, {"*b*", "[$a\\b $ab $abc $b]"},
		{"[ab]", "[$a $b]"}, {"[^ab]", "[$\x00 $* $1 $9 $B $\xff]"}, {"[0-9]*", "[$1 $10 $9]"}, {"[a-b]", "[$a $b]"}, {"\\*", "[$*]"}, {"a\\*", "[$a*]"}, {"\\[a]", "[$[a]]"}, {"[a]", "[$a]"}, {"a\\\\b", "[$a\\b]"}, {"none", "[]"}, {"elsewhere", "[]"}, {"[", "[]"}, {"\xff", "[$\xff]"}, {"[\x00-\x1f]", "[$\x00]"},
	} {
		uses := p.uses(0)
		p.keeps(c.want, "KEYS", c.pattern)
		if got := p.uses(0); got != uses {
			t.Errorf("KEYS %q: %s; want %s", c.pattern, got, uses)
		}
	}
	p.want("FLUSHDB", "+OK")
	p.want("KEYS *", "[]")
	p.wantIn(1, "KEYS *", "[$elsewhere]")
}

// TestKY1KeysMany: keys of all kinds, so many that they move between tables, are told rising.
func TestKY1KeysMany(t *testing.T) {
	sp := newSpace(someLimits())
	var want []string
	for i := range 3000 {
		key := fmt.Sprint("key", i*7919%3000)
		sp.Put(0, key, made(kinds[i%5], someLimits(), "1"))
		want = append(want, "$"+key)
	}
	slices.Sort(want)
	if got := told(Do(sp, 0, []string{"KEYS", "key*"})); got != "["+strings.Join(want, " ")+"]" {
		t.Errorf("KEYS key*: %s", short(got))
	}
}

// TestKY1KeysLong: a pattern of so many bytes as may be, and one more.
func TestKY1KeysLong(t *testing.T) {
	name := strings.Repeat("n", maxPattern)
	p := withNames(t, name+" a")
	p.wantWords("[$"+name+"]", "KEYS", name)
	p.wantWords("[$"+name+"]", "KEYS", strings.Repeat("?", maxPattern))
	p.wantWords("[$a $"+name+"]", "KEYS", strings.Repeat("*", maxPattern))
	p.refusesWords(syntax, "KEYS", name+"n")
	p.refusesWords(syntax, "KEYS", strings.Repeat("*", maxPattern+1))
	p.refusesWords(syntax, "KEYS", strings.Repeat("?", api.MaxElement))
	p.wantIn(-1, "KEYS "+name, "[]")
	p.wantIn(-1, "KEYS "+name+"n", "-"+syntax)
	p.wantIn(databases, "KEYS "+name+"n", "-"+syntax)
}

// scanned is what keyspace.Scan tells, with what is left of it.
func scanned(sp *keyspace.Space, db, cursor, n int, leave func(key string) bool) string {
	keys, next := sp.Scan(db, cursor, n)
	keys = slices.DeleteFunc(keys, func(key string) bool { return !leave(key) })
	return told(array(bulk(fmt.Sprint(next)), bulks(keys...)))
}

// manyKinds is a trial with 40 keys of all kinds, key0 to key39, their kinds in turns.
func manyKinds(t testing.TB) *trial {
	t.Helper()
	p := newTrial(t, someLimits())
	for i := range 40 {
		p.give(0, fmt.Sprint("key", i), kinds[i%5], "1", "2")
	}
	return p
}

// TestKY1Scan: cursors and options in any order, letters and number: what keyspace.Scan tells, and of that what matches, in that order.
func TestKY1Scan(t *testing.T) {
	p := manyKinds(t)
	uses := p.uses(0)
	all := func(string) bool { return true }
	ofKind := func(kind int) func(key string) bool {
		return func(key string) bool {
			v, _ := p.sp.Peek(0, key)
			return v.Kind() == kind
		}
	}
	tail := func(key string) bool { return strings.HasSuffix(key, "1") }
	for _, cursor := range []int{0, 1, 2, 5, 17, 63, 1000, 1<<63 - 1} {
		at := fmt.Sprint("SCAN ", cursor)
		p.want(at, scanned(p.sp, 0, cursor, 10, all))
		p.want(at+" MATCH *", scanned(p.sp, 0, cursor, 10, all))
		p.want(at+" MATCH *1", scanned(p.sp, 0, cursor, 10, tail))
		p.want(at+" match *1 MATCH *", scanned(p.sp, 0, cursor, 10, all))
		p.want(at+" MATCH * Match *1", scanned(p.sp, 0, cursor, 10, tail))
		for _, n := range []int{1, 2, 7, 100, 1<<63 - 1} {
			p.want(fmt.Sprint(at, " COUNT ", n), scanned(p.sp, 0, cursor, n, all))
			p.want(fmt.Sprint(at, " COUNT 3 count ", n), scanned(p.sp, 0, cursor, n, all))
			p.want(fmt.Sprint(at, " MATCH *1 COUNT ", n), scanned(p.sp, 0, cursor, n, tail))
			p.want(fmt.Sprint(at, " COUNT ", n, " MATCH *1"), scanned(p.sp, 0, cursor, n, tail))
			for i, word := range []string{"string", "list", "set", "zset", "hash"} {
				for _, word := range []string{word, strings.ToUpper(word), mixed(word)} {
					want := scanned(p.sp, 0, cursor, n, ofKind(kinds[i]))
					p.want(fmt.Sprint(at, " TYPE ", word, " COUNT ", n), want)
					p.want(fmt.Sprint(at, " COUNT ", n, " type ", word), want)
					p.want(fmt.Sprint(at, " TYPE bogus COUNT ", n, " Type ", word), want)
					both := scanned(p.sp, 0, cursor, n, func(key string) bool { return tail(key) && ofKind(kinds[i])(key) })
					p.want(fmt.Sprint(at, " TYPE ", word, " COUNT ", n, " MATCH *1"), both)
					p.want(fmt.Sprint(at, " MATCH *1 TYPE ", word, " COUNT ", n), both)
				}
			}
			for _, word := range []string{"none", "''", "bogus", "strings", "str", "' string'", "5", "TYPE", "*"} {
				p.want(fmt.Sprint(at, " TYPE ", word, " COUNT ", n), scanned(p.sp, 0, cursor, n, func(string) bool { return false }))
				p.want(fmt.Sprint(at, " TYPE set COUNT ", n, " TYPE ", word), scanned(p.sp, 0, cursor, n, func(string) bool { return false }))
			}
		}
	}
	if got := p.uses(0); got != uses {
		t.Errorf("the uses are %s; want %s", got, uses)
	}
	p.wantIn(1, "SCAN 0", "[$0 []]")
	p.wantIn(1, "SCAN 9 MATCH * COUNT 3 TYPE string", "[$0 []]")
	p.want("SCAN 0 MATCH MATCH COUNT 1000", "[$0 []]")
	p.want("SCAN 0 MATCH TYPE TYPE COUNT COUNT 100", "[$0 []]")
}

// TestKY1ScanErrors: cursors that can't be, options that can't be, alone and two at once.
func TestKY1ScanErrors(t *testing.T) {
	longest, over := strings.Repeat("?", maxPattern), strings.Repeat("?", maxPattern+1)
	p := withNames(t, strings.Repeat("n", maxPattern)+" a b")
	for _, word := range append(noNumbers(), "-1", least) {
		p.refusesWords(noCursor, "SCAN", word)
		p.refusesWords(noCursor, "SCAN", word, "MATCH", over)
		p.refusesWords(noCursor, "SCAN", word, "BOGUS")
		p.refusesWords(noCursor, "SCAN", word, "COUNT", "0", "TYPE")
	}
	for _, words := range []string{"MATCH", "COUNT", "TYPE", "BOGUS", "''", "BOGUS 1", "MATCH a COUNT", "COUNT 1 MATCH", "COUNT 1 TYPE", "TYPE set MATCH", "COUNT 1 1", "MATCH a b", "TYPE set 1", "1 COUNT", "a MATCH", "MATCH a BOGUS 1", "BOGUS 1 COUNT 1", "COUNT 0", "COUNT -1", "COUNT 0 MATCH a", "COUNT 1 COUNT 0", "COUNT 0 COUNT 1", "COUNT x COUNT 1", "COUNT 0 TYPE set", "TYPE set COUNT 0", "TYPE bogus COUNT 0", "COUNT 0 BOGUS 1", "BOGUS 1 COUNT 0", "NOVALUES", "TYPES set", "MATCHES a", "COUN 1"} {
		p.refuses("SCAN 0 "+words, syntax)
		p.wantIn(1, "SCAN 0 "+words, "-"+syntax)
		p.wantIn(-1, "SCAN 0 "+words, "-"+syntax)
	}
	for _, word := range append(noNumbers(), "0", "-1", least) {
		p.refusesWords(syntax, "SCAN", "0", "COUNT", word)
	}
	p.refusesWords(syntax, "SCAN", "0", "MATCH", over)
	p.refusesWords(syntax, "SCAN", "0", "MATCH", over, "MATCH", "a")
	p.refusesWords(syntax, "SCAN", "0", "MATCH", "a", "MATCH", over)
	p.refusesWords(syntax, "SCAN", "0", "MATCH", over, "COUNT", "0")
	p.wantWords("[$0 [$"+strings.Repeat("n", maxPattern)+"]]", "SCAN", "0", "MATCH", longest)
	p.wantWords("[$0 []]", "SCAN", "0", "TYPE", over)
	p.wantWords("[$0 []]", "SCAN", "0", "TYPE", strings.Repeat("set", 100000))
}

// TestP13Scans: whole scans from cursor 0 to cursor 0, with keys put, dropped, renamed, moved and copied between their steps: every key that was there all the while is told, none that never was.
func TestP13Scans(t *testing.T) {
	t.Parallel()
	for seed := range 300 {
		m := mix(seed + 1)
		sp := newSpace(someLimits())
		name := func() string { return fmt.Sprint(pick(&m, "", "k"), m.below(400)) }
		all := map[string]bool{} // all that were ever there
		put := func(db int, key string) {
			sp.Put(db, key, made(kinds[m.below(5)], someLimits(), "1"))
		}
		for range m.below(300) {
			put(0, name())
		}
		put(0, "stays")
		left := map[string]bool{} // those that were there all the while
		for _, key := range sp.Keys(0) {
			all[key], left[key] = true, true
		}
		met := map[string]bool{}
		grow := m.below(3)
		for cursor, steps := "0", 0; ; steps++ {
			words := []string{"SCAN", cursor, "COUNT", fmt.Sprint(1 + m.below(12))}
			if m.below(2) == 0 {
				words = append(words, "MATCH", "*")
			}
			r := Do(sp, 0, words)
			for _, one := range r.List[1].List {
				met[one.Text] = true
			}
			cursor = r.List[0].Text
			if cursor == "0" {
				break
			}
			if steps > 10000 {
				t.Fatalf("seed %d: the scan does not end", seed)
			}
			for range m.below(20) {
				key, other := name(), name()
				switch {
				case m.below(3) < grow && m.below(2) == 0:
					put(0, key)
				case m.below(3) < grow:
					Do(sp, 0, []string{"COPY", key, other, "REPLACE"})
				case m.below(9) == 0:
					put(1, key)
					Do(sp, 1, []string{"MOVE", key, "0"})
				case m.below(9) == 0:
					Do(sp, 0, []string{"MOVE", key, "1"})
				case m.below(9) == 0:
					Do(sp, 0, []string{"RENAME", key, other})
				case m.below(9) == 0:
					Do(sp, 0, []string{"PEXPIREAT", key, pick(&m, "0", "9")})
				default:
					Do(sp, 0, []string{pick(&m, "DEL", "UNLINK"), key})
				}
				for _, key := range []string{key, other} {
					if _, there := sp.Peek(0, key); there {
						all[key] = true
					} else {
						delete(left, key)
					}
				}
			}
		}
		for key := range left {
			if !met[key] {
				t.Fatalf("seed %d: %s was there all the while, and was not told", seed, key)
			}
		}
		for key := range met {
			if !all[key] {
				t.Fatalf("seed %d: %s was told, and was never there", seed, key)
			}
		}
	}
}

// TestP13Kinds: a whole scan with a pattern and a kind tells just the keys that are of both.
func TestP13Kinds(t *testing.T) {
	p := manyKinds(t)
	for i, kind := range []string{"string", "list", "set", "zset", "hash"} {
		var met, want []string
		for cursor, first := "0", true; first || cursor != "0"; first = false {
			r := Do(p.sp, 0, []string{"SCAN", cursor, "TYPE", kind, "MATCH", "key?", "COUNT", "3"})
			for _, one := range r.List[1].List {
				met = append(met, one.Text)
			}
			cursor = r.List[0].Text
		}
		slices.Sort(met)
		for j := i; j < 10; j += 5 {
			want = append(want, fmt.Sprint("key", j))
		}
		if !slices.Equal(slices.Compact(met), want) {
			t.Errorf("of the kind %s: %q; want %q", kind, met, want)
		}
	}
}

// TestP13All: a scan of keys that are not changed tells each once, if no move goes on, with whatever count.
func TestP13All(t *testing.T) {
	for _, n := range []int{1, 2, 3, 10, 100, 1000} {
		sp := newSpace(leastLimits())
		var want, met []string
		for i := range 100 {
			want = append(want, fmt.Sprint("key", i))
			sp.Put(0, want[i], made(api.KindString, leastLimits(), "x"))
		}
		for range 200 {
			sp.Put(0, "key1", made(api.KindString, leastLimits(), "x")) // so that moves come to their end
		}
		for cursor, first := "0", true; first || cursor != "0"; first = false {
			r := Do(sp, 0, []string{"SCAN", cursor, "COUNT", fmt.Sprint(n)})
			for _, one := range r.List[1].List {
				met = append(met, one.Text)
			}
			cursor = r.List[0].Text
		}
		slices.Sort(met)
		slices.Sort(want)
		if !slices.Equal(met, want) {
			t.Errorf("COUNT %d: %q; want %q", n, met, want)
		}
	}
}

// TestKY1Random: null of none; else the key that keyspace.Random and keyspace.Pick lead to, again and again; nothing is used.
func TestKY1Random(t *testing.T) {
	p := newTrial(t, someLimits())
	p.keeps("_", "RANDOMKEY")
	p.give(0, "one", api.KindString, "x")
	p.keeps("$one", "RANDOMKEY")
	for i := range 20 {
		p.give(0, fmt.Sprint("k", i), kinds[i%5], "x")
	}
	uses := p.uses(0)
	told := map[string]int{}
	for range 300 {
		twin := p.sp.Clone()
		want, _ := twin.Pick(0, twin.Random(21))
		p.keeps("$"+want, "RANDOMKEY")
		told[want]++
	}
	if len(told) != 21 {
		t.Errorf("of 21 keys these were told: %v", told)
	}
	if got := p.uses(0); got != uses {
		t.Errorf("the uses are %s; want %s", got, uses)
	}
	p.wantIn(1, "RANDOMKEY", "_")
	p.wantIn(-1, "RANDOMKEY", "_")
	p.wantIn(databases, "RANDOMKEY", "_")
	p.want("FLUSHDB", "+OK")
	p.want("RANDOMKEY", "_")
}
