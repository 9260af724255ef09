package hashes

import (
	"slices"
	"strings"
	"testing"

	"cistern/api"
)

// TestExamples: the chapter's examples.
func TestExamples(t *testing.T) {
	for _, limits := range allLimits() {
		p := newTrial(t, limits)
		p.want("HSET h b 2 a 1", ":2")
		p.want("HGETALL h", "{$a $1 $b $2}")
		p.want("HSET h a 3", ":0")
		p.want("HINCRBY h a 4", ":7")
		p.refuses("HINCRBY h c x", "ERR value is not an integer or out of range")
		p.want("HMGET h a zz", "[$7 _]")
		r := Do(p.sp, 0, split("HRANDFIELD h -3 WITHVALUES"))
		if want := p.m.do(0, split("HRANDFIELD h -3 WITHVALUES")); len(r.List) != 6 || !same(r, want) {
			t.Errorf("HRANDFIELD h -3 WITHVALUES: %s; want %s", told(r), told(want))
		}
		p.want("HDEL h a b", ":2")
		if _, there := p.sp.Peek(0, "h"); there {
			t.Error("h is there behind its last field")
		}
	}
}

// TestHA1Names: the rows' names, rising, each once; the list is the caller's.
func TestHA1Names(t *testing.T) {
	want := []string{"hdel", "hexists", "hget", "hgetall", "hincrby", "hkeys", "hlen", "hmget", "hmset", "hrandfield", "hscan", "hset", "hsetnx", "hstrlen", "hvals"}
	got := Names()
	if !slices.Equal(got, want) {
		t.Fatalf("Names() = %q; want %q", got, want)
	}
	all := got[:cap(got)]
	for i := range all {
		all[i] = "spoilt"
	}
	_ = append(got[:0], "more")
	if again := Names(); !slices.Equal(again, want) {
		t.Errorf("Names() = %q behind work on an earlier answer", again)
	}
	var rows []string
	for _, r := range chapter() {
		rows = append(rows, r.name)
	}
	slices.Sort(rows)
	if !slices.Equal(rows, want) {
		t.Errorf("the rows are %q", rows)
	}
}

// mixed writes every other letter great.
func mixed(name string) string {
	b := []byte(strings.ToLower(name))
	for i := 1; i < len(b); i += 2 {
		b[i] -= 'a' - 'A'
	}
	return string(b)
}

// samples are lines of each command that are not refused with the keys of withHashes.
func samples() []string {
	return []string{
		"hset h x 9", "hset h a 1", "hset h a 7 x 8 a 9", "hset k x 1 y 2", "hmset h x 9 a 8", "hmset h a 1", "hmset k x 1", "hsetnx h a 9", "hsetnx h x 9", "hsetnx k x 1",
		"hget h a", "hget h x", "hget k a", "hmget h a x c", "hmget k a b", "hdel h a", "hdel h a x b", "hdel h a b c", "hdel h x", "hdel one e", "hdel k a", "hlen h", "hlen k", "hexists h a", "hexists h x", "hexists k a", "hstrlen h c", "hstrlen h x", "hstrlen k a",
		"hkeys h", "hkeys k", "hvals h", "hvals k", "hgetall h", "hgetall k", "hincrby h a 5", "hincrby h x -5", "hincrby k x 0", "hincrby h b 0",
		"hrandfield h", "hrandfield k", "hrandfield h 2", "hrandfield h 9", "hrandfield h 0", "hrandfield h -5", "hrandfield k -5", "hrandfield h 2 withvalues", "hrandfield h -4 withvalues", "hrandfield k 4 withvalues",
		"hscan h 0", "hscan h 0 match a*", "hscan h 0 count 1 match ?", "hscan h 3 match a match b", "hscan k 0 count 5", "hscan h 0 novalues", "hscan h 0 match ? novalues count 1", "hscan k 0 novalues",
	}
}

// TestHA1Letters: a name in small, great and mixed letters does the same, and so do the option words.
func TestHA1Letters(t *testing.T) {
	done := map[string]int{}
	for _, sample := range samples() {
		var first string
		for i, spelt := range []func(string) string{strings.ToLower, strings.ToUpper, mixed} {
			p := withHashes(t)
			args := strings.Fields(sample)
			done[args[0]]++
			for j, word := range args {
				if j == 0 || slices.Contains([]string{"withvalues", "match", "count", "novalues"}, word) {
					args[j] = spelt(word)
				}
			}
			got := p.ask(args...) + "\n" + p.unused()
			if i == 0 {
				first = got
			}
			if got != first || strings.HasPrefix(got, "-") {
				t.Errorf("%q: %s; want %s", args, got, first)
			}
		}
	}
	for _, name := range Names() {
		if done[name] == 0 {
			t.Errorf("no sample of %s", name)
		}
	}
}

// TestHA1OtherLetters: letters of the world that are near those of a word are none of it.
func TestHA1OtherLetters(t *testing.T) {
	p := withHashes(t)
	for _, words := range []string{"HRANDFIELD h 1 W\u0130THVALUES", "HRANDFIELD h 1 w\u0131thvalues", "HRANDFIELD h 1 WITHVALUE\u017f", "HSCAN h 0 M\u00c4TCH a", "HSCAN h 0 C\u00d3UNT 1", "HSCAN h 0 NOVALUE\u017f", "HSCAN h 0 N\u00d6VALUES"} {
		p.refuses(words, syntax)
	}
	for _, words := range []string{"H\u017fET h a 1", "h\u017fcan h 0", "HEXI\u017fTS h a", "H\u0130NCRBY h a 1", "HLE\u0143 h"} {
		p.refuses(words, unknown)
	}
}

// TestHA1None: no words, names that are none, and the commands of other layers.
func TestHA1None(t *testing.T) {
	p := withHashes(t)
	p.refusesWords(unknown)
	if r := Do(p.sp, 0, nil); !same(r, api.Reply{Kind: api.ReplyError, Text: unknown}) {
		t.Errorf("no words: %+v", r)
	}
	for _, name := range []string{"", " ", "fly", "hse", "hsett", " hset", "hset ", "hset\x00", "h\xe5et", "hgetset", "hincrbyfloat", "hexpire", "hello", "set", "get", "del", "lpush", "sadd", "zadd", "scan", "sscan", "keys", "vals", strings.Repeat("hlen", 1000)} {
		p.refusesWords(unknown, name)
		p.refusesWords(unknown, name, "h")
		p.refusesWords(unknown, name, "h", "a")
		p.refusesWords(unknown, name, "h", "a", "1")
		p.refusesWords(unknown, name, "h", "0", "MATCH", "a")
	}
}

// TestHA1Arity: of each command one word fewer than it takes, one more, and many more; what is within is not refused so.
func TestHA1Arity(t *testing.T) {
	for _, r := range chapter() {
		for n := 1; n < 14; n++ {
			p := withHashes(t)
			args := []string{r.name}
			for len(args) < n {
				args = append(args, pick(new(mix(n*7+len(args))), "h", "1", "a"))
			}
			if n >= r.least && (r.most < 0 || n <= r.most) {
				if got := p.ask(args...); got == "-"+unknown {
					t.Errorf("%q: %s", args, got)
				}
				continue
			}
			p.refusesWords(unknown, args...)
		}
	}
}
