package sets

import (
	"slices"
	"strings"
	"testing"

	"cistern/api"
)

// TestExamples: the chapter's examples.
func TestExamples(t *testing.T) {
	for _, limits := range allLimits() {
		p := newTrial(t, limits)
		p.want("SADD s 3 1 2", ":3")
		p.want("SMEMBERS s", "{$1 $2 $3}")
		p.want("SADD s 10", ":1")
		p.want("SMEMBERS s", "{$1 $10 $2 $3}")
		p.want("SINTERSTORE t s s", ":4")
		p.want("SDIFF s t", "{}")
		p.refuses("SPOP s -1", "ERR value is out of range, must be positive")
		p.refuses("SINTERCARD 0 s", "ERR numkeys should be greater than 0")
		p.refuses("SSCAN s x", "ERR invalid cursor")
		p.give(0, "k", api.KindString)
		p.refuses("SADD k a", wrongType)
		p.want("SUNIONSTORE k s", ":4")
		p.want("SMEMBERS k", "{$1 $10 $2 $3}")
	}
}

// TestP161Names: the rows' names, rising, each once; the list is the caller's.
func TestP161Names(t *testing.T) {
	want := []string{"sadd", "scard", "sdiff", "sdiffstore", "sinter", "sintercard", "sinterstore", "sismember", "smembers", "smismember", "smove", "spop", "srandmember", "srem", "sscan", "sunion", "sunionstore"}
	got := Names()
	if !slices.Equal(got, want) {
		t.Fatalf("Names() = %q; want %q", got, want)
	}
	all := got[:cap(got)]
	for i := range all {
		all[i] = "spoilt"
	}
	_ = append(got[:0], "more")
	if again := Names(); !slices.Equal(again, want) {
		t.Errorf("Names() = %q behind work on an earlier answer", again)
	}
	var rows []string
	for _, r := range chapter() {
		rows = append(rows, r.name)
	}
	slices.Sort(rows)
	if !slices.Equal(rows, want) {
		t.Errorf("the rows are %q", rows)
	}
}

// mixed writes every other letter great.
func mixed(name string) string {
	b := []byte(strings.ToLower(name))
	for i := 1; i < len(b); i += 2 {
		b[i] -= 'a' - 'A'
	}
	return string(b)
}

// samples are lines of each command that are not refused with the keys of withSets.
func samples() []string {
	return []string{
		"sadd s x y", "sadd s a b", "sadd k x y", "srem s a b", "srem s a b c", "srem s x", "srem k a", "sismember s a", "sismember s x", "sismember k a", "smismember s a x c", "smismember k a",
		"scard s", "scard k", "smembers s", "smembers k", "spop s", "spop s 2", "spop s 9", "spop s 0", "spop k", "spop k 2", "spop one", "srandmember s", "srandmember s 2", "srandmember s 9", "srandmember s 0", "srandmember s -5", "srandmember k", "srandmember k -5", "srandmember k 5",
		"smove s t a", "smove s t b", "smove s k a", "smove s s a", "smove s t x", "smove k s a", "smove one t e", "smove one k e", "sinter s", "sinter s t", "sinter s k", "sunion s t", "sunion s k t one", "sdiff s t", "sdiff t s one", "sdiff k s",
		"sinterstore d s t", "sinterstore s s t", "sinterstore s t k", "sunionstore d s t", "sunionstore s t one", "sdiffstore d s t", "sdiffstore s s s", "sintercard 2 s t", "sintercard 2 s t limit 1", "sintercard 1 k limit 0",
		"sscan s 0", "sscan s 0 match a*", "sscan s 0 count 1 match ?", "sscan s 3 match a match b", "sscan k 0 count 5",
	}
}

// TestP161Letters: a name in small, great and mixed letters does the same, and so do the option words.
func TestP161Letters(t *testing.T) {
	done := map[string]int{}
	for _, sample := range samples() {
		var first string
		for i, spelt := range []func(string) string{strings.ToLower, strings.ToUpper, mixed} {
			p := withSets(t)
			args := strings.Fields(sample)
			done[args[0]]++
			for j, word := range args {
				if j == 0 || slices.Contains([]string{"limit", "match", "count"}, word) {
					args[j] = spelt(word)
				}
			}
			got := p.ask(args...) + "\n" + p.unused()
			if i == 0 {
				first = got
			}
			if got != first || strings.HasPrefix(got, "-") {
				t.Errorf("%q: %s; want %s", args, got, first)
			}
		}
	}
	for _, name := range Names() {
		if done[name] == 0 {
			t.Errorf("no sample of %s", name)
		}
	}
}

// TestP161OtherLetters: letters of the world that are near those of a word are none of it.
func TestP161OtherLetters(t *testing.T) {
	p := withSets(t)
	for _, words := range []string{"SINTERCARD 1 s L\u0130MIT 1", "SINTERCARD 1 s l\u0131mit 1", "SSCAN s 0 M\u00c4TCH a", "SSCAN s 0 C\u00d3UNT 1", "SSCAN s 0 \u0043\u0327OUNT 1"} {
		p.refuses(words, syntax)
	}
	for _, words := range []string{"\u017fADD s x", "\u017fcard s", "SD\u0130FF s", "SI\u017fMEMBER s a"} {
		p.refuses(words, unknown)
	}
}

// TestP161None: no words, names that are none, and the commands of other layers.
func TestP161None(t *testing.T) {
	p := withSets(t)
	p.refusesWords(unknown)
	if r := Do(p.sp, 0, nil); !same(r, api.Reply{Kind: api.ReplyError, Text: unknown}) {
		t.Errorf("no words: %+v", r)
	}
	for _, name := range []string{"", " ", "fly", "sad", "saddd", " sadd", "sadd ", "sadd\x00", "s\xe1dd", "sdiffcard", "sunioncard", "sinterstor", "set", "get", "del", "lpush", "hset", "zadd", "zinter", "scan", "sort", "save", "select", strings.Repeat("scard", 1000)} {
		p.refusesWords(unknown, name)
		p.refusesWords(unknown, name, "s")
		p.refusesWords(unknown, name, "s", "t")
		p.refusesWords(unknown, name, "s", "t", "a")
		p.refusesWords(unknown, name, "1", "s", "LIMIT", "1")
	}
}

// TestP161Arity: of each command one word fewer than it takes, one more, and many more; what is within is not refused so.
func TestP161Arity(t *testing.T) {
	for _, r := range chapter() {
		for n := 1; n < 14; n++ {
			p := withSets(t)
			args := []string{r.name}
			for len(args) < n {
				args = append(args, pick(new(mix(n*7+len(args))), "s", "1", "t"))
			}
			if n >= r.least && (r.most < 0 || n <= r.most) {
				if got := p.ask(args...); got == "-"+unknown {
					t.Errorf("%q: %s", args, got)
				}
				continue
			}
			p.refusesWords(unknown, args...)
		}
	}
}
