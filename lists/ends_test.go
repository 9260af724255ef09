package lists

import (
	"fmt"
	"slices"
	"strings"
	"testing"

	"cistern/api"
)

const (
	least    = "-9223372036854775808"
	greatest = "9223372036854775807"
)

// noNumbers are words that are no numbers' texts.
func noNumbers() []string {
	return []string{"", "x", " 1", "1 ", "+1", "01", "-0", "1.0", "1e3", "0x1", "9223372036854775808", "-9223372036854775809", "\x001", "one"}
}

// TestLI1Push: one entry and many, at both ends, into a list that is made and one that is there.
func TestLI1Push(t *testing.T) {
	p := begun(t)
	p.want("LPUSH k a", ":1")
	p.holds("k", "a")
	p.want("LPUSH k b c d", ":4")
	p.holds("k", "d c b a")
	p.want("RPUSH k e f", ":6")
	p.holds("k", "d c b a e f")
	p.want("RPUSH m a b c", ":3")
	p.holds("m", "a b c")
	p.want("LPUSH n a b c", ":3")
	p.holds("n", "c b a")
	p.want("RPUSH e '' '' x ''", ":4")
	p.want("LRANGE e 0 -1", "[$ $ $x $]")
	p.wantWords(":1", "RPUSH", "", "under the empty key")
	p.want("LPUSHX none a b", ":0")
	p.want("RPUSHX none a b", ":0")
	p.holds("none", "")
	p.want("LPUSHX m x y", ":5")
	p.want("RPUSHX m v w", ":7")
	p.holds("m", "y x a b c v w")
}

// TestLI1PushLong: entries of as many bytes as there may be, and of one more; nothing has changed where only the last one is too long.
func TestLI1PushLong(t *testing.T) {
	most, over := strings.Repeat("m", api.MaxElement), strings.Repeat("o", api.MaxElement+1)
	for _, name := range []string{"LPUSH", "RPUSH", "LPUSHX", "RPUSHX"} {
		p := withLists(t)
		p.expire(0, "s", 5000)
		p.refusesWords(tooLarge, name, "s", over)
		p.refusesWords(tooLarge, name, "s", "x", "y", over)
		p.refusesWords(tooLarge, name, "s", over, "x")
		p.wantWords(":6", name, "s", most, "x", most)
		if strings.HasSuffix(name, "X") {
			p.keeps(":0", name, "none", over)
			continue
		}
		p.refusesWords(tooLarge, name, "none", over)
		p.refusesWords(tooLarge, name, "none", "x", over)
		p.wantWords(":1", name, "none", most)
		p.refusesWords(tooLarge, name, strings.Repeat("k", api.MaxKey+1), "x")
		p.wantWords(":1", name, strings.Repeat("k", api.MaxKey), "x")
	}
}

// TestLI1PushMost: as many entries as there may be, by one command and by several, and one more.
func TestLI1PushMost(t *testing.T) {
	t.Parallel()
	limits := someLimits()
	limits.ListEntries = 64
	sp := newSpace(limits)
	words := func(name, key string, n int) []string {
		return append([]string{name, key}, slices.Repeat([]string{"e"}, n)...)
	}
	want := func(want string, args ...string) {
		t.Helper()
		mark := sp.Mark(0, args[1])
		if got := told(Do(sp, 0, args)); got != want {
			t.Errorf("%s: %s; want %s", line(args), got, want)
		}
		if strings.HasPrefix(want, "-") && sp.Mark(0, args[1]) != mark {
			t.Errorf("%s was refused, and has changed the key", line(args))
		}
	}
	large := "-" + tooLarge
	want(large, words("RPUSH", "l", api.MaxCount+1)...)
	want(fmt.Sprint(":", api.MaxCount), words("LPUSH", "l", api.MaxCount)...)
	for _, name := range []string{"LPUSH", "RPUSH", "LPUSHX", "RPUSHX"} {
		want(large, name, "l", "x")
	}
	want(large, "LINSERT", "l", "BEFORE", "e", "x")
	want(":-1", "LINSERT", "l", "BEFORE", "none", "x")
	want("$e", "LMOVE", "l", "l", "LEFT", "RIGHT")
	want("$e", "RPOPLPUSH", "l", "l")
	want(":2", "RPUSH", "m", "x", "y")
	want(large, "LMOVE", "m", "l", "LEFT", "RIGHT")
	want(large, "RPOPLPUSH", "m", "l")
	want("[$x $y]", "LRANGE", "m", "0", "-1")
	want("+OK", "LSET", "l", "-1", "last")
	want("$last", "RPOP", "l")
	want(large, words("RPUSHX", "l", 2)...)
	want(fmt.Sprint(":", api.MaxCount), "RPUSH", "l", "x")
	want(fmt.Sprint(":", api.MaxCount), "LLEN", "l")
	want("$x", "RPOPLPUSH", "l", "m")
	want(fmt.Sprint(":", api.MaxCount), "LINSERT", "l", "AFTER", "e", "y")
	want(fmt.Sprint(":", api.MaxCount-1), "LREM", "l", "0", "e")
	want("[$y]", "LRANGE", "l", "0", "-1")
}

// TestLI1Pop: without a number, with numbers from 0 to far above the list's length, and the last entry, with which the key goes.
func TestLI1Pop(t *testing.T) {
	for _, c := range []struct{ line, want, left string }{
		{"LPOP s", "$a", "b c"}, {"RPOP s", "$c", "a b"}, {"LPOP s 1", "[$a]", "b c"}, {"RPOP s 1", "[$c]", "a b"}, {"LPOP s 2", "[$a $b]", "c"}, {"RPOP s 2", "[$c $b]", "a"},
		{"LPOP s 3", "[$a $b $c]", ""}, {"RPOP s 3", "[$c $b $a]", ""}, {"LPOP s 4", "[$a $b $c]", ""}, {"RPOP s 4", "[$c $b $a]", ""}, {"LPOP s " + greatest, "[$a $b $c]", ""}, {"RPOP s " + greatest, "[$c $b $a]", ""},
		{"LPOP none", "_", ""}, {"RPOP none", "_", ""}, {"LPOP none 0", "*_", ""}, {"RPOP none 2", "*_", ""},
	} {
		p := withLists(t)
		p.expire(0, "s", 5000)
		p.want(c.line, c.want)
		p.holds(split(c.line)[1], c.left)
		if at, ok := p.sp.Expiry(0, "s"); ok && at != 5000 {
			t.Errorf("%s: the expiry is %d", c.line, at)
		}
		// What comes under the same name later has no expiry.
		if strings.Contains(c.line, " s ") && c.left == "" {
			p.want("RPUSH s new", ":1")
			if at, _ := p.sp.Expiry(0, "s"); at != -1 {
				t.Errorf("%s: the expiry came back: %d", c.line, at)
			}
		}
	}
	for _, name := range []string{"LPOP", "RPOP"} {
		p := withLists(t)
		p.give(0, "set", api.KindSet)
		p.keeps("[]", name, "s", "0")
		for _, word := range append(noNumbers(), "-1", "-2", least) {
			for _, key := range []string{"s", "none", "set"} {
				p.refusesWords(notPositive, name, key, word)
			}
		}
		for range 3 {
			p.ask(name, "s")
		}
		p.want(name+" s", "_")
		if _, ok := p.sp.Peek(0, "s"); ok {
			t.Errorf("%s of the last entry leaves the key", name)
		}
	}
}

// TestLI1Move: all pairs of ends, from a list of one to three entries into one that is there, that is made, and that is the same.
func TestLI1Move(t *testing.T) {
	for _, c := range []struct{ ends, told, source, dest, same string }{
		{"LEFT LEFT", "$a", "b c", "a x y", "a b c"}, {"LEFT RIGHT", "$a", "b c", "x y a", "b c a"}, {"RIGHT LEFT", "$c", "a b", "c x y", "c a b"}, {"RIGHT RIGHT", "$c", "a b", "x y c", "a b c"},
	} {
		p := withLists(t)
		p.want("RPUSH d x y", ":2")
		p.expire(0, "s", 5000)
		p.expire(0, "d", 6000)
		p.want("LMOVE s d "+c.ends, c.told)
		p.holds("s", c.source)
		p.holds("d", c.dest)
		p.want("LMOVE t t "+c.ends, c.told)
		p.holds("t", c.same)
		p.want("LMOVE t made "+c.ends, "$"+c.same[map[bool]int{true: 0, false: 4}[c.ends[0] == 'L']:][:1])
		for key, due := range map[string]int{"s": 5000, "d": 6000, "t": -1, "made": -1} {
			if at, ok := p.sp.Expiry(0, key); at != due || !ok {
				t.Errorf("LMOVE .. %s: the expiry of %s is %d, %v", c.ends, key, at, ok)
			}
		}
		p.want("RPUSH one e", ":1")
		p.expire(0, "one", 7000)
		p.want("LMOVE one one "+c.ends, "$e")
		if at, ok := p.sp.Expiry(0, "one"); at != 7000 || !ok {
			t.Errorf("LMOVE one one %s: the expiry is %d, %v", c.ends, at, ok)
		}
		p.want("LMOVE one two "+c.ends, "$e")
		p.holds("one", "")
		p.holds("two", "e")
		if at, _ := p.sp.Expiry(0, "two"); at != -1 {
			t.Errorf("LMOVE one two %s: the expiry came along: %d", c.ends, at)
		}
	}
	p := withLists(t)
	p.want("RPOPLPUSH s t", "$c")
	p.holds("s", "a b")
	p.holds("t", "c a b c")
	p.want("RPOPLPUSH t t", "$c")
	p.holds("t", "c c a b")
}

// TestLI1MoveNone: a source that is not there, kinds that are wrong, words that are no ends.
func TestLI1MoveNone(t *testing.T) {
	for _, kind := range kinds {
		if kind == api.KindList {
			continue
		}
		p := withLists(t)
		p.give(0, "w", kind)
		for _, end := range []string{"LMOVE %s %s LEFT RIGHT", "LMOVE %s %s RIGHT RIGHT", "RPOPLPUSH %s %s"} {
			p.keeps("_", split(fmt.Sprintf(end, "none", "s"))...)
			p.keeps("_", split(fmt.Sprintf(end, "none", "w"))...)
			p.keeps("_", split(fmt.Sprintf(end, "none", "none"))...)
			p.refuses(fmt.Sprintf(end, "w", "s"), wrongType)
			p.refuses(fmt.Sprintf(end, "s", "w"), wrongType)
			p.refuses(fmt.Sprintf(end, "w", "w"), wrongType)
			p.refuses(fmt.Sprintf(end, "w", "none"), wrongType)
		}
		for _, ends := range []string{"LEFT UP", "UP LEFT", "L R", "LEFT ''", "'' RIGHT", "LEFTRIGHT LEFT", "BEFORE AFTER", "0 -1"} {
			for _, key := range []string{"s", "w", "none"} {
				p.refuses("LMOVE "+key+" t "+ends, syntax)
			}
		}
	}
	p := withLists(t)
	long := strings.Repeat("k", api.MaxKey+1)
	p.want("RPUSH one e", ":1")
	p.refusesWords(tooLarge, "LMOVE", "s", long, "LEFT", "LEFT")
	p.refusesWords(tooLarge, "RPOPLPUSH", "one", long)
	p.keeps("_", "RPOPLPUSH", long, "s")
}

// TestLI1PopOfMany: which key is popped, at which end, how many.
func TestLI1PopOfMany(t *testing.T) {
	for _, c := range []struct{ line, want, left string }{
		{"LMPOP 1 s LEFT", "[$s [$a]]", "b c"}, {"LMPOP 1 s RIGHT", "[$s [$c]]", "a b"}, {"LMPOP 2 s t LEFT", "[$s [$a]]", "b c"}, {"LMPOP 3 none gone s RIGHT", "[$s [$c]]", "a b"}, {"LMPOP 2 none s LEFT COUNT 2", "[$s [$a $b]]", "c"}, {"LMPOP 1 s RIGHT COUNT 2", "[$s [$c $b]]", "a"},
		{"LMPOP 1 s LEFT COUNT 3", "[$s [$a $b $c]]", ""}, {"LMPOP 1 s RIGHT COUNT 99", "[$s [$c $b $a]]", ""}, {"LMPOP 1 s LEFT COUNT " + greatest, "[$s [$a $b $c]]", ""}, {"LMPOP 2 s s LEFT COUNT 1", "[$s [$a]]", "b c"}, {"LMPOP 2 s w LEFT", "[$s [$a]]", "b c"},
		{"LMPOP 1 none LEFT", "*_", "a b c"}, {"LMPOP 3 none none gone RIGHT COUNT 5", "*_", "a b c"}, {"LMPOP 1 LEFT LEFT", "*_", "a b c"}, {"LMPOP 1 COUNT LEFT COUNT 1", "*_", "a b c"}, {"LMPOP 2 LEFT s LEFT", "[$s [$a]]", "b c"},
	} {
		p := withLists(t)
		p.give(0, "w", api.KindHash)
		p.expire(0, "s", 5000)
		p.want(c.line, c.want)
		p.holds("s", c.left)
		p.holds("t", "a b c")
		if at, ok := p.sp.Expiry(0, "s"); ok && at != 5000 {
			t.Errorf("%s: the expiry is %d", c.line, at)
		}
	}
}

// TestLI1PopOfManyErrors: numbers that can't be, words that are too few, too many or none, and the first key that is there of the wrong kind.
func TestLI1PopOfManyErrors(t *testing.T) {
	for _, kind := range kinds {
		if kind == api.KindList {
			continue
		}
		p := withLists(t)
		p.give(0, "w", kind)
		for _, word := range append(noNumbers(), "0", "-1", least) {
			p.refusesWords(noKeys, "LMPOP", word, "s", "LEFT")
			p.refusesWords(noKeys, "LMPOP", word, "w", "UP", "COUNT", "0", "more")
		}
		for _, words := range []string{
			"2 s LEFT", "3 s t LEFT", "2 s LEFT COUNT 1", "3 w LEFT COUNT 0", greatest + " s LEFT", "9223372036854775806 s LEFT", "1 s t", "1 s t LEFT", "1 s UP", "1 w ''", "1 s LEFT COUNT", "1 s LEFT CONT 1", "1 s LEFT 1 COUNT",
			"1 s LEFT LEFT", "1 s LEFT RIGHT 1", "1 s LEFT COUNT 1 COUNT 1", "1 s LEFT COUNT 1 more", "1 s LEFT COUNT 0 more", "1 s LEFT COUNT 1 2", "1 w LEFT COUNT COUNT", "1 s COUNT 1 LEFT", "1 s COUNT 1",
		} {
			p.refuses("LMPOP "+words, syntax)
		}
		for _, word := range noNumbers() {
			p.refusesWords(syntax, "LMPOP", "1", "w", "LEFT", "COUNT", word)
		}
		for _, word := range []string{"0", "-1", least} {
			p.refuses("LMPOP 1 w LEFT COUNT "+word, noPops)
			p.refuses("LMPOP 1 none LEFT COUNT "+word, noPops)
		}
		p.refuses("LMPOP 1 w LEFT", wrongType)
		p.refuses("LMPOP 3 none w s RIGHT COUNT 2", wrongType)
		p.refuses("LMPOP 2 w none LEFT", wrongType)
	}
}
