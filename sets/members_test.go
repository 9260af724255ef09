package sets

import (
	"fmt"
	"slices"
	"strings"
	"testing"

	"cistern/api"
	"cistern/keyspace"
)

const (
	least    = "-9223372036854775808"
	greatest = "9223372036854775807"
)

// noNumbers are words that are no numbers' texts.
func noNumbers() []string {
	return []string{"", "x", " 1", "1 ", "+1", "01", "-0", "1.0", "1e3", "0x1", "9223372036854775808", "-9223372036854775809", "\x001", "one"}
}

// numbered are so many words: a name, a key, and members from a number on.
func numbered(name, key, member string, from, n int) []string {
	words := make([]string, 0, n+2)
	words = append(words, name, key)
	for i := range n {
		words = append(words, fmt.Sprint(member, from+i))
	}
	return words
}

// TestP161Add: one member and many, the same one twice, members that are there and that are not, into a set that is made and one that is there.
func TestP161Add(t *testing.T) {
	for _, limits := range allLimits() {
		p := newTrial(t, limits)
		for _, c := range []struct{ line, want, members string }{
			{"SADD k b", ":1", "b"}, {"SADD k a c", ":2", "a b c"}, {"SADD k a b c", ":0", "a b c"}, {"SADD k d d d", ":1", "a b c d"}, {"SADD k a e b f e", ":2", "a b c d e f"},
			{"SADD n 5", ":1", "5"}, {"SADD n 10 5 -1 10", ":2", "-1 10 5"}, {"SADD n 007 7 +7", ":3", "+7 -1 007 10 5 7"}, {"SADD m x x y x", ":2", "x y"}, {"SADD m X", ":1", "X x y"},
		} {
			p.want(c.line, c.want)
			p.holds(split(c.line)[1], c.members)
		}
		p.want("SADD e '' x ''", ":2")
		p.want("SMEMBERS e", "{$ $x}")
		p.wantWords(":1", "SADD", "", "under the empty key")
		p.wantWords(":3", "SADD", "bytes", "\x00", "\xff", "\x00\x00")
		p.want("SMEMBERS bytes", "{$\x00 $\x00\x00 $\xff}")
		p.want("SADD ends "+least+" "+greatest+" -9223372036854775809", ":3")
		p.want("SMEMBERS ends", "{$"+least+" $-9223372036854775809 $"+greatest+"}")
	}
}

// TestP161AddLong: members of as many bytes as there may be, and of one more; nothing has changed where only the last one is too long.
func TestP161AddLong(t *testing.T) {
	most, other, over := strings.Repeat("m", api.MaxElement), strings.Repeat("n", api.MaxElement), strings.Repeat("o", api.MaxElement+1)
	p := withSets(t)
	p.expire(0, "s", 5000)
	p.refusesWords(tooLarge, "SADD", "s", over)
	p.refusesWords(tooLarge, "SADD", "s", "x", "y", over)
	p.refusesWords(tooLarge, "SADD", "s", over, "x")
	p.refusesWords(tooLarge, "SADD", "s", "a", over)
	p.wantWords(":3", "SADD", "s", most, "x", most, other)
	p.refusesWords(tooLarge, "SADD", "none", over)
	p.refusesWords(tooLarge, "SADD", "none", "x", over)
	p.wantWords(":1", "SADD", "none", most)
	p.wantWords(":1", "SISMEMBER", "s", most)
	p.wantWords("[:1 :0 :0]", "SMISMEMBER", "s", other, over, most[1:])
	p.wantWords(":0", "SREM", "s", over)
	p.wantWords(":1", "SMOVE", "s", "t", other)
	p.keeps(":0", "SMOVE", "s", "t", over)
	p.wantWords(":2", "SREM", "s", over, "x", most)
	key := strings.Repeat("k", api.MaxKey+1)
	p.refusesWords(tooLarge, "SADD", key, "x")
	p.wantWords(":0", "SCARD", key)
	p.wantWords(":1", "SADD", key[1:], "x")
}

// refusedBy says what is told of words, and that an error leaves the marks of the keys as they were.
func refusedBy(t *testing.T, sp *keyspace.Space) func(want string, args ...string) {
	return func(want string, args ...string) {
		t.Helper()
		marks := func() (list []int) {
			for _, key := range sp.Keys(0) {
				v, _ := sp.Peek(0, key)
				list = append(list, sp.Mark(0, key), v.Len())
			}
			return list
		}
		before := marks()
		if got := told(Do(sp, 0, args)); got != want {
			t.Fatalf("%s: %s; want %s", line(args), short(got), want)
		}
		if strings.HasPrefix(want, "-") && !slices.Equal(marks(), before) {
			t.Fatalf("%s was refused, and has changed something", line(args))
		}
	}
}

// TestP161AddMost: as many members as there may be, by one command and by several, and one more; sets of numbers, and of other texts.
func TestP161AddMost(t *testing.T) {
	for member, limits := range map[string]api.Thresholds{"": greatestLimits(), "m": someLimits()} {
		t.Run(member, func(t *testing.T) {
			t.Parallel()
			sp := newSpace(limits)
			want := refusedBy(t, sp)
			large, full := "-"+tooLarge, fmt.Sprint(":", api.MaxCount)
			want(large, numbered("SADD", "s", member, 1, api.MaxCount+1)...)
			want(full, numbered("SADD", "s", member, 1, api.MaxCount)...)
			want(large, "SADD", "s", "x")
			want(large, "SADD", "s", member+"1", member+"2", member+"2000000")
			want(":0", "SADD", "s", member+"1", member+"1048576")
			want(":2", "SADD", "m", member+"1", "x")
			want(large, "SMOVE", "m", "s", "x")
			want("{$"+member+"1 $x}", "SMEMBERS", "m")
			want(":1", "SMOVE", "m", "s", member+"1")
			want(large, "SUNIONSTORE", "d", "s", "m")
			want(large, "SUNIONSTORE", "s", "s", "m")
			want(":0", "SCARD", "d")
			want(full, "SINTERSTORE", "d", "s", "s")
			want(":1", "SREM", "s", member+"77", "none")
			want(large, "SADD", "s", "x", "y")
			want(":1", "SADD", "s", "x", "x")
			want(full, "SINTERCARD", "2", "s", "s")
			want(full, "SCARD", "s")
			want(fmt.Sprint(":", api.MaxCount-1), numbered("SREM", "s", member, 1, api.MaxCount)...)
			want("{$x}", "SMEMBERS", "s")
		})
	}
}

// TestP161Remove: members that are there and that are not, the same one twice, the last one, with which the key and its expiry go.
func TestP161Remove(t *testing.T) {
	for _, limits := range allLimits() {
		for _, members := range []string{"a b c", "1 2 3", "1 b 3"} {
			p := newTrial(t, limits)
			w := strings.Fields(members)
			p.want("SADD s "+members, ":3")
			p.expire(0, "s", 5000)
			p.keeps(":0", "SREM", "s", "x")
			p.keeps(":0", "SREM", "s", "x", "01", "+1", "", "A", "-1")
			p.wantWords(":1", "SREM", "s", w[1], "x", w[1])
			p.holds("s", w[0]+" "+w[2])
			p.due("s", 5000)
			p.wantWords(":0", "SREM", "s", w[1])
			p.wantWords(":2", "SREM", "s", "x", w[2], w[0])
			p.holds("s", "")
			p.wantWords(":0", "SREM", "s", w[0])
			p.wantWords(":1", "SADD", "s", w[0])
			p.due("s", -1)
		}
	}
}

// TestP161Ask: SISMEMBER, SMISMEMBER, SCARD and SMEMBERS of sets that are kept as numbers, as a listpack and in the large form.
func TestP161Ask(t *testing.T) {
	for _, c := range []struct{ members, rising, encoding string }{
		{"3 1 2 10", "1 10 2 3", "intset"}, {"-5 -40 7 0", "-40 -5 0 7", "intset"}, {"b a 10 9", "10 9 a b", "listpack"}, {"2 x 10", "10 2 x", "listpack"}, {"1 2 3 10 20", "1 10 2 20 3", "hashtable"}, {"z y x w v 100 20", "100 20 v w x y z", "hashtable"}, {"nine....9 a", "a nine....9", "hashtable"}, {"aa a ab b", "a aa ab b", "listpack"},
	} {
		p := begun(t)
		p.ask(append([]string{"SADD", "s"}, strings.Fields(c.members)...)...)
		p.encoding("s", c.encoding)
		list := strings.Fields(c.rising)
		p.want("SCARD s", fmt.Sprint(":", len(list)))
		p.want("SMEMBERS s", "{$"+strings.Join(list, " $")+"}")
		if r := Do(p.sp, 0, []string{"SMEMBERS", "s"}); r.Kind != api.ReplySet {
			t.Errorf("SMEMBERS tells a reply of kind %d", r.Kind)
		}
		p.m.get(0, "s") // the same, where the reply's kind was looked at
		for _, member := range list {
			p.want("SISMEMBER s "+member, ":1")
		}
		for _, word := range []string{"", "none", "01", "+1", "-0", "1 ", "A", "a\x00", greatest} {
			p.wantWords(":0", "SISMEMBER", "s", word)
		}
		p.want("SMISMEMBER s none "+list[0]+" none "+list[1]+" "+list[0], "[:0 :1 :0 :1 :1]")
	}
}

// TestP161AskMany: SMISMEMBER of more members than are sought one by one, in all encodings.
func TestP161AskMany(t *testing.T) {
	for _, limits := range allLimits() {
		for _, member := range []string{"", "m", "-"} {
			for _, n := range []int{1, few - 1, few, few + 1, 100, 1000} {
				p := newTrial(t, limits)
				p.ask(numbered("SADD", "s", member, 1, 50)...)
				words := numbered("SMISMEMBER", "s", member, 1, n)
				for i := 3; i < len(words); i += 3 {
					words[i] = pick(new(mix(i)), "x", "01", "", "7", "m7")
				}
				p.ask(words...)
				words[1] = "none"
				p.ask(words...)
			}
		}
	}
}

// TestP161Move: a dest that is there, that is made, that has the member, that is the source; the last member of the source.
func TestP161Move(t *testing.T) {
	for _, c := range []struct{ line, want, s, t, one, made string }{
		{"SMOVE s t a", ":1", "b c", "a b c d", "e", ""}, {"SMOVE s t b", ":1", "a c", "b c d", "e", ""}, {"SMOVE s t d", ":0", "a b c", "b c d", "e", ""}, {"SMOVE s t x", ":0", "a b c", "b c d", "e", ""}, {"SMOVE t s d", ":1", "a b c d", "b c", "e", ""},
		{"SMOVE s made c", ":1", "a b", "b c d", "e", "c"}, {"SMOVE s made x", ":0", "a b c", "b c d", "e", ""}, {"SMOVE one made e", ":1", "a b c", "b c d", "", "e"}, {"SMOVE one t e", ":1", "a b c", "b c d e", "", ""}, {"SMOVE s s a", ":1", "a b c", "b c d", "e", ""}, {"SMOVE s s x", ":0", "a b c", "b c d", "e", ""}, {"SMOVE one one e", ":1", "a b c", "b c d", "e", ""},
		{"SMOVE none s a", ":0", "a b c", "b c d", "e", ""}, {"SMOVE none none a", ":0", "a b c", "b c d", "e", ""}, {"SMOVE none made a", ":0", "a b c", "b c d", "e", ""},
	} {
		p := withSets(t)
		p.expire(0, "s", 5000)
		p.want(c.line, c.want)
		for key, members := range map[string]string{"s": c.s, "t": c.t, "one": c.one, "made": c.made} {
			p.holds(key, members)
		}
		p.due("s", 5000)
	}
	for _, kind := range others() {
		p := withSets(t)
		p.give(0, "w", kind)
		p.refuses("SMOVE s w a", wrongType)
		p.refuses("SMOVE s w x", wrongType)
		p.refuses("SMOVE w s a", wrongType)
		p.refuses("SMOVE w w a", wrongType)
		p.refuses("SMOVE w none a", wrongType)
		p.keeps(":0", "SMOVE", "none", "w", "a")
		key := strings.Repeat("k", api.MaxKey+1)
		p.refusesWords(tooLarge, "SMOVE", "s", key, "a")
		p.refusesWords(tooLarge, "SMOVE", "one", key, "e")
		p.keeps(":0", "SMOVE", "s", key, "x")
		p.keeps(":0", "SMOVE", key, "s", "a")
	}
}

// TestMoveKept: what a moved member makes of the encodings of both.
func TestMoveKept(t *testing.T) {
	p := begun(t)
	p.want("SADD ints 1 2 3 4", ":4")
	p.want("SADD pack a b c 7", ":4")
	p.want("SADD table a b c d e", ":5")
	p.want("SMOVE ints made 1", ":1")
	p.encoding("made", "intset")
	p.want("SMOVE pack ints a", ":1")
	p.encoding("ints", "listpack")
	p.want("SMOVE pack ints b", ":1")
	p.encoding("ints", "hashtable")
	p.want("SMOVE table pack d", ":1")
	p.encoding("pack", "listpack")
	p.encoding("table", "hashtable")
	p.want("SMOVE table made e", ":1")
	p.encoding("made", "listpack")
	p.want("SMOVE pack table c", ":1")
	p.holds("table", "a b c")
	p.holds("pack", "7 d")
}
