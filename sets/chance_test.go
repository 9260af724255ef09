package sets

import (
	"fmt"
	"slices"
	"strings"
	"testing"

	"cistern/api"
)

// withLetters is a trial whose key s is a set of a to j, with an expiry; no number by chance has been asked for.
func withLetters(t testing.TB, limits api.Thresholds) *trial {
	t.Helper()
	p := newTrial(t, limits)
	p.want("SADD s j i h g f e d c b a", ":10")
	p.expire(0, "s", 5000)
	return p
}

// TestP161Pop: without a number, with numbers from 0 to far above the set's size; the last member, with which the key and its expiry go. The members that go were reckoned elsewhere.
func TestP161Pop(t *testing.T) {
	for _, limits := range allLimits() {
		for _, c := range []struct{ line, want, left string }{
			{"SPOP s", "$e", "a b c d f g h i j"}, {"SPOP s 0", "{}", "a b c d e f g h i j"}, {"SPOP s 1", "{$e}", "a b c d f g h i j"}, {"SPOP s 4", "{$e $d $g $c}", "a b f h i j"}, {"SPOP s 9", "{$e $d $g $c $a $b $i $h $j}", "f"},
			{"SPOP s 10", "{$e $d $g $c $a $b $i $h $j $f}", ""}, {"SPOP s 11", "{$e $d $g $c $a $b $i $h $j $f}", ""}, {"SPOP s " + greatest, "{$e $d $g $c $a $b $i $h $j $f}", ""},
		} {
			p := withLetters(t, limits)
			p.want(c.line, c.want)
			p.holds("s", c.left)
			if c.left != "" {
				p.due("s", 5000)
				continue
			}
			p.due("s", 0)
			p.want("SPOP s", "_")
			p.want("SPOP s 3", "{}")
			p.want("SADD s new", ":1")
			p.due("s", -1)
			p.want("SPOP s", "$new")
		}
	}
}

// TestP161PopNumbers: a number that is none, or below 0, whatever the key is.
func TestP161PopNumbers(t *testing.T) {
	for _, kind := range kinds {
		p := withSets(t)
		p.give(0, "w", kind)
		for _, word := range append(noNumbers(), "-1", "-2", least) {
			for _, key := range []string{"s", "none", "w"} {
				p.refusesWords(notPositive, "SPOP", key, word)
			}
		}
	}
	p := withSets(t)
	p.keeps("{}", "SPOP", "s", "0")
	p.keeps("{}", "SPOP", "none", "0")
	p.keeps("{}", "SPOP", "none", "5")
	p.keeps("_", "SPOP", "none")
}

// TestP161Sample: the same of SRANDMEMBER, which takes nothing out; below 0 a member may come again.
func TestP161Sample(t *testing.T) {
	for _, limits := range allLimits() {
		for _, c := range []struct{ line, want string }{
			{"SRANDMEMBER s", "$e"}, {"SRANDMEMBER s 0", "[]"}, {"SRANDMEMBER s 1", "[$e]"}, {"SRANDMEMBER s 4", "[$e $d $g $c]"}, {"SRANDMEMBER s 9", "[$e $d $g $c $a $b $i $h $j]"},
			{"SRANDMEMBER s 10", "[$a $b $c $d $e $f $g $h $i $j]"}, {"SRANDMEMBER s 11", "[$a $b $c $d $e $f $g $h $i $j]"}, {"SRANDMEMBER s 1048576", "[$a $b $c $d $e $f $g $h $i $j]"},
			{"SRANDMEMBER s -1", "[$e]"}, {"SRANDMEMBER s -12", "[$e $d $g $a $e $f $a $c $j $g $d $c]"},
			{"SRANDMEMBER none", "_"}, {"SRANDMEMBER none 0", "[]"}, {"SRANDMEMBER none 5", "[]"}, {"SRANDMEMBER none -5", "[]"}, {"SRANDMEMBER none -1048576", "[]"},
		} {
			p := withLetters(t, limits)
			p.keeps(c.want, split(c.line)...)
		}
		p := withLetters(t, limits)
		p.want("SRANDMEMBER s 9", "[$e $d $g $c $a $b $i $h $j]")
		p.want("SREM s a b c d e f g h i j", ":10")
		p.keeps("[]", "SRANDMEMBER", "s", "-3")
	}
}

// TestP161SampleNumbers: numbers up to the greatest that may be, one beyond each, and none.
func TestP161SampleNumbers(t *testing.T) {
	for _, kind := range kinds {
		p := withSets(t)
		p.give(0, "w", kind)
		for _, word := range append(noNumbers(), "1048577", "-1048577", least, greatest) {
			for _, key := range []string{"s", "none", "w"} {
				p.refusesWords(noSample, "SRANDMEMBER", key, word)
			}
		}
	}
	sp := newSpace(someLimits())
	Do(sp, 0, split("SADD s a b c"))
	for _, n := range []int{-api.MaxCount, -api.MaxCount + 1} {
		by := sp.Clone()
		r := Do(sp, 0, []string{"SRANDMEMBER", "s", fmt.Sprint(n)})
		if r.Kind != api.ReplyArray || len(r.List) != -n {
			t.Fatalf("SRANDMEMBER s %d: kind %d, %d members", n, r.Kind, len(r.List))
		}
		for i, one := range r.List {
			if want := "abc"[by.Random(3):][:1]; one.Text != want || one.Kind != api.ReplyBulk {
				t.Fatalf("SRANDMEMBER s %d: %s at the place %d; want %s", n, told(one), i, want)
			}
		}
	}
}

// TestChance: the members that are picked are those that keyspace.Random tells of a space that is as this one, picked one by one; sets of all sizes, numbers of all sizes.
func TestChance(t *testing.T) {
	t.Parallel()
	m := mix(31)
	for range 400 {
		sp := newSpace(pick(&m, allLimits()...))
		size := 1 + m.below(pick(&m, 3, 10, 40, 300))
		Do(sp, 0, numbered("SADD", "s", pick(&m, "", "m"), m.below(50), size))
		for range 5 {
			v, there := sp.Peek(0, "s")
			var left []string
			if there {
				left = membersIn(v)
			}
			n := m.below(pick(&m, 3, len(left)+3))
			by, want := sp.Clone(), []string{}
			taken := slices.Clone(left)
			for len(want) < n && len(taken) > 0 {
				i := by.Random(len(taken))
				want = append(want, taken[i])
				taken = slices.Delete(taken, i, i+1)
			}
			name, kind := "SPOP", api.ReplySet
			if m.below(2) == 0 {
				name, kind = "SRANDMEMBER", api.ReplyArray
				if n >= len(left) {
					by, want = sp.Clone(), left
				}
			}
			got := Do(sp, 0, []string{name, "s", fmt.Sprint(n)})
			if !same(got, bulks(kind, want)) {
				t.Fatalf("%s s %d of %q: %s; want %q", name, n, left, told(got), want)
			}
			if a, b := sp.Clone().Random(1<<30), by.Random(1<<30); a != b {
				t.Fatalf("%s s %d of %d: not as many numbers by chance as picks", name, n, len(left))
			}
			if name == "SPOP" {
				left = taken
			}
			if got := Do(sp, 0, []string{"SMEMBERS", "s"}); !same(got, bulks(api.ReplySet, left)) {
				t.Fatalf("%s s %d leaves %s; want %q", name, n, told(got), left)
			}
		}
	}
}

// TestChanceEach: SPOP one by one takes what SPOP of as many takes at once, and leaves the same.
func TestChanceEach(t *testing.T) {
	for _, limits := range allLimits() {
		for _, member := range []string{"", "m"} {
			one, all := newTrial(t, limits), newTrial(t, limits)
			for _, p := range []*trial{one, all} {
				p.ask(numbered("SADD", "s", member, 1, 60)...)
			}
			var list []string
			for range 40 {
				list = append(list, one.ask("SPOP", "s"))
			}
			all.want("SPOP s 40", "{"+strings.Join(list, " ")+"}")
			v, _ := one.sp.Peek(0, "s")
			w, _ := all.sp.Peek(0, "s")
			if kept(v) != kept(w) {
				t.Errorf("one by one %s are left, at once %s", kept(v), kept(w))
			}
		}
	}
}

// TestSampleDifferent: of fewer than there are no member comes twice, and each may come.
func TestSampleDifferent(t *testing.T) {
	sp := newSpace(someLimits())
	Do(sp, 0, numbered("SADD", "s", "m", 0, 50))
	met := map[string]int{}
	for range 200 {
		r := Do(sp, 0, []string{"SRANDMEMBER", "s", "20"})
		members := texts(r)[1:]
		slices.Sort(members)
		if len(members) != 20 || len(slices.Compact(members)) != 20 {
			t.Fatalf("SRANDMEMBER s 20: %s", told(r))
		}
		for _, member := range members {
			met[member]++
		}
	}
	if len(met) != 50 {
		t.Errorf("only %d of 50 members were ever told", len(met))
	}
}

// TestChanceMany: thousands at once, held against picks one by one.
func TestChanceMany(t *testing.T) {
	for _, limits := range allLimits() {
		sp := newSpace(limits)
		Do(sp, 0, numbered("SADD", "s", "", 0, 6000))
		v, _ := sp.Peek(0, "s")
		left, by := membersIn(v), sp.Clone()
		var want []string
		for range 5000 {
			i := by.Random(len(left))
			want = append(want, left[i])
			left = slices.Delete(left, i, i+1)
		}
		if got := Do(sp.Clone(), 0, split("SRANDMEMBER s 5000")); !same(got, bulks(api.ReplyArray, want)) {
			t.Errorf("SRANDMEMBER s 5000: %s", short(told(got)))
		}
		if got := Do(sp, 0, split("SPOP s 5000")); !same(got, bulks(api.ReplySet, want)) {
			t.Errorf("SPOP s 5000: %s", short(told(got)))
		}
		if got := Do(sp, 0, split("SMEMBERS s")); !same(got, bulks(api.ReplySet, left)) {
			t.Errorf("SPOP s 5000 leaves %d members", len(got.List))
		}
	}
}

// TestSampleMemory: a long member that comes again and again takes the memory of one.
func TestSampleMemory(t *testing.T) {
	sp := newSpace(someLimits())
	Do(sp, 0, []string{"SADD", "s", strings.Repeat("m", api.MaxElement)})
	r := Do(sp, 0, split("SRANDMEMBER s -1000"))
	for _, one := range r.List {
		if !shared(one.Text, r.List[0].Text) {
			t.Fatal("each of the same members has a memory of its own")
		}
	}
}
