package hashes

import (
	"fmt"
	"slices"
	"strings"
	"testing"

	"cistern/api"
	"cistern/keyspace"
)

const (
	least    = "-9223372036854775808"
	greatest = "9223372036854775807"
)

// noNumbers are words that are no numbers' texts.
func noNumbers() []string {
	return []string{"", "x", " 1", "1 ", "+1", "01", "-0", "1.0", "1e3", "0x1", "9223372036854775808", "-9223372036854775809", "\x001", "one"}
}

// numbered are so many fields behind a name and a key: names from a number on, each with a value.
func numbered(name, key, field string, from, n int) []string {
	words := make([]string, 0, 2*n+2)
	words = append(words, name, key)
	for i := range n {
		words = append(words, fmt.Sprint(field, from+i), fmt.Sprint("v", from+i))
	}
	return words
}

// namesOnly are numbered's words without the values.
func namesOnly(name, key, field string, from, n int) []string {
	words := make([]string, 0, n+2)
	words = append(words, name, key)
	for i := range n {
		words = append(words, fmt.Sprint(field, from+i))
	}
	return words
}

// TestHA1Set: HSET and HMSET of one field and of many, the same name twice, names that are there and that are not, into a hash that is made and one that is there.
func TestHA1Set(t *testing.T) {
	for _, limits := range allLimits() {
		for _, name := range []string{"HSET", "HMSET"} {
			p := newTrial(t, limits)
			for _, c := range []struct {
				line   string
				fresh  int
				fields string
			}{
				{"k b 2", 1, "b 2"}, {"k a 1 c 3", 2, "a 1 b 2 c 3"}, {"k a 1", 0, "a 1 b 2 c 3"}, {"k a 9 b 8", 0, "a 9 b 8 c 3"}, {"k d 1 d 2 d 3", 1, "a 9 b 8 c 3 d 3"}, {"k a 1 e 5 b 2 f 6 e 7", 2, "a 1 b 2 c 3 d 3 e 7 f 6"},
				{"m x 1 x 2 y 3 x 4", 2, "x 4 y 3"}, {"m X 0", 1, "X 0 x 4 y 3"}, {"n 10 a 9 b 1 c", 3, "1 c 10 a 9 b"}, {"n 01 d +1 e", 2, "+1 e 01 d 1 c 10 a 9 b"}, {"l a b b a", 2, "a b b a"},
			} {
				want := "+OK"
				if name == "HSET" {
					want = fmt.Sprint(":", c.fresh)
				}
				p.want(name+" "+c.line, want)
				p.holds(split(c.line)[0], c.fields)
			}
			p.ask(name, "e", "", "empty name", "empty value", "")
			p.want("HGETALL e", "{$ $empty name $empty value $}")
			p.ask(name, "", "under", "the empty key")
			p.want("HGETALL ''", "{$under $the empty key}")
			p.ask(name, "bytes", "\x00", "\xff", "\xff", "\x00", "\x00\x00", "\r\n")
			p.want("HGETALL bytes", "{$\x00 $\xff $\x00\x00 $\r\n $\xff $\x00}")
		}
	}
}

// TestHA1Pairs: a name without its value, whatever the key is; the error has the command's own name, in small letters.
func TestHA1Pairs(t *testing.T) {
	for _, kind := range kinds {
		p := withHashes(t)
		p.give(0, "w", kind)
		p.expire(0, "w", 7000)
		for _, key := range []string{"h", "none", "w"} {
			for _, words := range []string{"a 1 b", "a 1 b 2 c", "x 1 y", "a 1 a", "a 1 b 2 c 3 d"} {
				p.refuses("HSET "+key+" "+words, noPairs)
				p.refuses("hSeT "+key+" "+words, noPairs)
				p.refuses("HMSET "+key+" "+words, noPairsM)
				p.refuses("hmset "+key+" "+words, noPairsM)
			}
		}
		long, longKey := strings.Repeat("v", api.MaxElement+1), strings.Repeat("k", api.MaxKey+1)
		p.refusesWords(noPairs, "HSET", "w", long, long, long)
		p.refusesWords(noPairsM, "HMSET", longKey, long, long, long)
	}
}

// TestSameValue: a field that is given the value that it has: the space is told, the expiry stays.
func TestSameValue(t *testing.T) {
	for _, limits := range allLimits() {
		for _, line := range []string{"HSET h a 1", "HMSET h a 1", "HSET h a 1 b 2", "HSET h b 9 b 2", "HINCRBY h a 0"} {
			p := newTrial(t, limits)
			p.want("HSET h a 1 b 2", ":2")
			p.expire(0, "h", 5000)
			mark := p.sp.Mark(0, "h")
			p.ask(split(line)...)
			p.holds("h", "a 1 b 2")
			p.due("h", 5000)
			if p.sp.Mark(0, "h") != mark+1 {
				t.Errorf("%s: the mark %d has become %d", line, mark, p.sp.Mark(0, "h"))
			}
		}
	}
}

// TestHA1Long: names and values of as many bytes as there may be, and of one more; nothing has changed where only the last of several is too long.
func TestHA1Long(t *testing.T) {
	most, other, over := strings.Repeat("m", api.MaxElement), strings.Repeat("n", api.MaxElement), strings.Repeat("o", api.MaxElement+1)
	for _, name := range []string{"HSET", "HMSET"} {
		p := withHashes(t)
		p.expire(0, "h", 5000)
		for _, key := range []string{"h", "none"} {
			p.refusesWords(tooLarge, name, key, over, "1")
			p.refusesWords(tooLarge, name, key, "a", over)
			p.refusesWords(tooLarge, name, key, over, over)
			p.refusesWords(tooLarge, name, key, "a", "9", "b", "9", "x", over)
			p.refusesWords(tooLarge, name, key, "a", "9", "x", "9", over, "9")
			p.refusesWords(tooLarge, name, key, over, "9", "x", "9")
			p.refusesWords(tooLarge, name, key, "x", over, "x", "9")
		}
		p.ask(name, "h", most, other, "x", most)
		p.ask(name, "none", most, "1")
		p.wantWords(":5", "HLEN", "h")
		p.wantWords("$"+other, "HGET", "h", most)
		p.wantWords(fmt.Sprint(":", api.MaxElement), "HSTRLEN", "h", "x")
		p.wantWords("[$"+most+" _ _]", "HMGET", "h", "x", over, most[1:])
		key := strings.Repeat("k", api.MaxKey+1)
		p.refusesWords(tooLarge, name, key, "a", "1")
		p.wantWords(":0", "HLEN", key)
		p.ask(name, key[1:], "a", "1")
		p.wantWords("$1", "HGET", key[1:], "a")
	}
	p := withHashes(t)
	// What only asks, or takes out, seeks a name of any length, and does not find it.
	p.keeps("_", "HGET", "h", over)
	p.keeps("[_ $1]", "HMGET", "h", over, "a")
	p.keeps(":0", "HEXISTS", "h", over)
	p.keeps(":0", "HSTRLEN", "h", over)
	p.keeps(":0", "HDEL", "h", over)
	p.wantWords(":1", "HDEL", "h", over, "a")
}

// TestHA1SetNew: HSETNX of a name that is there, which changes nothing, and of one that is not; of one too long.
func TestHA1SetNew(t *testing.T) {
	most, over := strings.Repeat("m", api.MaxElement), strings.Repeat("o", api.MaxElement+1)
	for _, limits := range allLimits() {
		p := newTrial(t, limits)
		p.want("HSETNX h a 1", ":1")
		p.holds("h", "a 1")
		p.expire(0, "h", 5000)
		p.keeps(":0", "HSETNX", "h", "a", "2")
		p.keeps(":0", "HSETNX", "h", "a", "1")
		p.keeps(":0", "HSETNX", "h", "a", over) // the name is asked for first
		p.want("HSETNX h A 2", ":1")
		p.want("HSETNX h '' ''", ":1")
		p.keeps(":0", "HSETNX", "h", "", "x")
		p.due("h", 5000)
		p.wantWords(":1", "HSETNX", "h", most, most)
		p.keeps(":0", "HSETNX", "h", most, "x")
		for _, key := range []string{"h", "none"} {
			p.refusesWords(tooLarge, "HSETNX", key, over, "1")
			p.refusesWords(tooLarge, "HSETNX", key, "x", over)
			p.refusesWords(tooLarge, "HSETNX", key, over, over)
		}
		p.want("HDEL h a", ":1")
		p.want("HSETNX h a 3", ":1")
		p.want("HGET h a", "$3")
		key := strings.Repeat("k", api.MaxKey+1)
		p.refusesWords(tooLarge, "HSETNX", key, "a", "1")
	}
}

// refusedBy says what is told of words, and that an error leaves the marks of the keys as they were.
func refusedBy(t *testing.T, sp *keyspace.Space) func(want string, args ...string) {
	return func(want string, args ...string) {
		t.Helper()
		marks := func() (list []int) {
			for _, key := range sp.Keys(0) {
				v, _ := sp.Peek(0, key)
				list = append(list, sp.Mark(0, key), v.Len())
			}
			return list
		}
		before := marks()
		if got := told(Do(sp, 0, args)); got != want {
			t.Fatalf("%s: %s; want %s", line(args), short(got), want)
		}
		if strings.HasPrefix(want, "-") && !slices.Equal(marks(), before) {
			t.Fatalf("%s was refused, and has changed something", line(args))
		}
	}
}

// TestHA1Most: as many fields as there may be, by one command and by several, and one more.
func TestHA1Most(t *testing.T) {
	for field, limits := range map[string]api.Thresholds{"": greatestLimits(), "m": someLimits()} {
		t.Run(field, func(t *testing.T) {
			t.Parallel()
			sp := newSpace(limits)
			want := refusedBy(t, sp)
			large, full := "-"+tooLarge, fmt.Sprint(":", api.MaxCount)
			want(large, numbered("HSET", "h", field, 1, api.MaxCount+1)...)
			want(large, numbered("HMSET", "h", field, 1, api.MaxCount+1)...)
			want(full, numbered("HSET", "h", field, 1, api.MaxCount)...)
			want(large, "HSET", "h", "x", "1")
			want(large, "HMSET", "h", "x", "1")
			want(large, "HSETNX", "h", "x", "1")
			want(large, "HINCRBY", "h", "x", "1")
			want(large, "HSET", "h", field+"1", "9", field+"2", "9", field+"2000000", "9")
			want("$v1", "HGET", "h", field+"1")
			want(":0", "HSET", "h", field+"1", "9", field+"1048576", "8")
			want("+OK", "HMSET", "h", field+"1", "7", field+"1", "8")
			want(":0", "HSETNX", "h", field+"1", "9")
			want(":9", "HINCRBY", "h", field+"1", "1")
			want("[$9 $v2 $8]", "HMGET", "h", field+"1", field+"2", field+"1048576")
			want(":1", "HDEL", "h", field+"77", "none")
			want(large, "HSET", "h", "x", "1", "y", "2")
			want(":1", "HSET", "h", "x", "1", "x", "2")
			want(full, "HLEN", "h")
			want(fmt.Sprint(":", api.MaxCount-1), namesOnly("HDEL", "h", field, 1, api.MaxCount)...)
			want("{$x $2}", "HGETALL", "h")
		})
	}
}

// TestHA1Erase: names that are there and that are not, the same one twice, the last one, with which the key and its expiry go.
func TestHA1Erase(t *testing.T) {
	for _, limits := range allLimits() {
		p := newTrial(t, limits)
		p.want("HSET h a 1 b 2 3 c", ":3")
		p.expire(0, "h", 5000)
		p.keeps(":0", "HDEL", "h", "x")
		p.keeps(":0", "HDEL", "h", "x", "03", "+3", "", "A", "1", "c")
		p.want("HDEL h b x b", ":1")
		p.holds("h", "3 c a 1")
		p.due("h", 5000)
		p.keeps(":0", "HDEL", "h", "b")
		p.want("HDEL h x 3 a", ":2")
		p.holds("h", "")
		p.due("h", 0)
		p.keeps(":0", "HDEL", "h", "a")
		p.want("HSET h a 1", ":1")
		p.due("h", -1)
		p.want("HSET h '' ''", ":1")
		p.want("HDEL h ''", ":1")
		p.want("HDEL h a", ":1")
		p.holds("h", "")
	}
}

// TestHA1Add: sums of values that are numbers' texts, of names that are not there, in a hash that is made and one that is there.
func TestHA1Add(t *testing.T) {
	for _, limits := range allLimits() {
		p := newTrial(t, limits)
		for _, c := range []struct{ line, want, fields string }{
			{"h a 5", ":5", "a 5"}, {"h a -7", ":-2", "a -2"}, {"h a 2", ":0", "a 0"}, {"h b 0", ":0", "a 0 b 0"}, {"h b " + greatest, ":" + greatest, "a 0 b " + greatest}, {"h b -1", ":9223372036854775806", "a 0 b 9223372036854775806"}, {"h b 1", ":" + greatest, "a 0 b " + greatest},
			{"h a " + least, ":" + least, "a " + least + " b " + greatest}, {"h a 1", ":-9223372036854775807", "a -9223372036854775807 b " + greatest}, {"h a -1", ":" + least, "a " + least + " b " + greatest}, {"h a " + greatest, ":-1", "a -1 b " + greatest}, {"h b " + least, ":-1", "a -1 b -1"},
			{"top x " + greatest, ":" + greatest, "x " + greatest}, {"low x " + least, ":" + least, "x " + least}, {"zero x 0", ":0", "x 0"}, {"zero '' 3", ":3", " 3 x 0"},
		} {
			p.want("HINCRBY "+c.line, c.want)
			p.holds(split(c.line)[0], c.fields)
		}
		p.refuses("HINCRBY top x 1", overflow)
		p.refuses("HINCRBY top x "+greatest, overflow)
		p.refuses("HINCRBY low x -1", overflow)
		p.refuses("HINCRBY low x "+least, overflow)
		p.expire(0, "top", 5000)
		p.want("HINCRBY top y 1", ":1")
		p.due("top", 5000)
		p.want("HSET h a 10 b x", ":0")
		p.want("HINCRBY h a 1", ":11")
		p.want("HGETALL h", "{$a $11 $b $x}")
	}
}

// TestHA1AddErrors: words and values that are no numbers' texts, whatever the key is; a name that is too long; no hash is made where it is refused.
func TestHA1AddErrors(t *testing.T) {
	over := strings.Repeat("o", api.MaxElement+1)
	for _, kind := range kinds {
		p := withHashes(t)
		p.give(0, "w", kind)
		for _, word := range noNumbers() {
			for _, key := range []string{"h", "none", "w"} {
				p.refusesWords(noNumber, "HINCRBY", key, "a", word)
				p.refusesWords(noNumber, "HINCRBY", key, "x", word)
				p.refusesWords(noNumber, "HINCRBY", key, over, word)
			}
		}
	}
	for _, limits := range allLimits() {
		p := newTrial(t, limits)
		for _, text := range append(noNumbers(), strings.Repeat("9", 1000)) {
			p.ask("HSET", "h", "a", text, "b", "1")
			p.expire(0, "h", 5000)
			for _, word := range []string{"0", "1", "-1", greatest, least} {
				p.refusesWords(noInteger, "HINCRBY", "h", "a", word)
			}
			p.wantWords("$"+text, "HGET", "h", "a")
		}
		p.refusesWords(tooLarge, "HINCRBY", "h", over, "1")
		p.refusesWords(tooLarge, "HINCRBY", "none", over, "1")
		p.refusesWords(tooLarge, "HINCRBY", strings.Repeat("k", api.MaxKey+1), "a", "1")
		p.refuses("HINCRBY none a x", noNumber)
		p.holds("none", "")
		p.wantWords(":1", "HINCRBY", "none", over[1:], "1")
	}
}
