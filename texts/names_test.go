package texts

import (
	"slices"
	"strings"
	"testing"

	"cistern/api"
)

// TestExamples: the chapter's examples.
func TestExamples(t *testing.T) {
	p := newTrial(t)
	p.want("SET a 1", "+OK")
	p.want("INCR a", ":2")
	p.want("APPEND a x", ":2")
	p.refuses("INCR a", noNumber)
	p.want("GETRANGE a -1 -1", "$x")
	p.want("SET a b NX", "_")
	p.want("SET a b XX GET", "$2x")
	p.refuses("SET k v EX 0", "ERR invalid expire time in 'set' command")
	p.refuses("SET k v PX 5 KEEPTTL", syntax)
	p.want("SETBIT b 7 1", ":0")
	p.want("GET b", "$\x01")
	p.want("BITPOS b 1", ":7")
	p.want("BITCOUNT b", ":1")
	p.refuses("BITOP NOT d a b", "ERR BITOP NOT must be called with a single source key.")
}

// TestP14_2Names: the rows' names, rising, each once; the list is the caller's.
func TestP14_2Names(t *testing.T) {
	want := []string{"append", "bitcount", "bitop", "bitpos", "decr", "decrby", "get", "getbit", "getdel", "getex", "getrange", "getset", "incr", "incrby", "mget", "mset", "msetnx", "psetex", "set", "setbit", "setex", "setnx", "setrange", "strlen"}
	got := Names()
	if !slices.Equal(got, want) {
		t.Fatalf("Names() = %q; want %q", got, want)
	}
	all := got[:cap(got)]
	for i := range all {
		all[i] = "spoilt"
	}
	_ = append(got[:0], "more")
	if again := Names(); !slices.Equal(again, want) {
		t.Errorf("Names() = %q behind work on an earlier answer", again)
	}
	var rows []string
	for _, r := range chapter() {
		rows = append(rows, r.name)
	}
	slices.Sort(rows)
	if !slices.Equal(rows, want) {
		t.Errorf("the rows are %q", rows)
	}
}

// mixed writes every other letter great.
func mixed(name string) string {
	b := []byte(name)
	for i := 1; i < len(b); i += 2 {
		b[i] -= 'a' - 'A'
	}
	return string(b)
}

// samples are lines of each command that are not refused where the keys s and t are strings of digits.
func samples() []string {
	return []string{
		"set k v", "set s v", "get s", "getset s v", "getset k v", "getdel s", "getex s", "getex s ex 5", "setnx k v", "setnx s v", "setex s 5 v", "psetex s 5 v",
		"mget s t k", "mset s 1 k 2", "msetnx k 1 l 2", "strlen s", "append s 1", "incr s", "decr s", "incrby s 5", "decrby s 5",
		"getrange s 0 -1", "setrange s 1 v", "getbit s 3", "setbit s 3 1", "bitcount s", "bitcount s 0 -1 bit", "bitpos s 1", "bitpos s 0 0 -1 bit",
		"bitop and k s t", "bitop or k s t", "bitop xor k s t", "bitop not k s",
	}
}

// TestP14_1Letters: a name in small, great and mixed letters does the same.
func TestP14_1Letters(t *testing.T) {
	done := map[string]int{}
	for _, sample := range samples() {
		var first string
		for i, spelt := range []func(string) string{strings.ToLower, strings.ToUpper, mixed} {
			p := newTrial(t)
			p.want("MSET s 12 t 345", "+OK")
			args := strings.Fields(sample)
			done[args[0]]++
			args[0] = spelt(args[0])
			got := p.ask(args...) + "\n" + p.unused()
			if i == 0 {
				first = got
			}
			if got != first || strings.HasPrefix(got, "-") {
				t.Errorf("%q: %s; want %s", args, got, first)
			}
		}
	}
	for _, name := range Names() {
		if done[name] == 0 {
			t.Errorf("no sample of %s", name)
		}
	}
}

// TestP14_1None: no words, names that are none, and the commands of other layers.
func TestP14_1None(t *testing.T) {
	p := newTrial(t)
	p.want("MSET s 12 t 345", "+OK")
	p.refusesWords(unknown)
	if r := Do(p.sp, 0, nil); !same(r, api.Reply{Kind: api.ReplyError, Text: unknown}) {
		t.Errorf("no words: %+v", r)
	}
	for _, name := range []string{"", " ", "fly", "ge", "gett", " get", "get ", "get\x00", "g\xe9t", "ſet", "G\u0395T", "del", "lpush", "sadd", "hset", "zadd", "exists", "substr", "getexx", "msetn", strings.Repeat("get", 1000)} {
		p.refusesWords(unknown, name)
		p.refusesWords(unknown, name, "s")
		p.refusesWords(unknown, name, "s", "t")
		p.refusesWords(unknown, name, "s", "1", "1")
	}
}

// TestP14_1Arity: of each command one word fewer than it takes, one more, and many more; what is within is not refused so.
func TestP14_1Arity(t *testing.T) {
	for _, r := range chapter() {
		for n := 1; n < 14; n++ {
			p := newTrial(t)
			p.want("MSET s 12 t 345", "+OK")
			args := []string{r.name}
			for len(args) < n {
				args = append(args, pick(new(mix(n*7+len(args))), "s", "1", "t"))
			}
			may := n >= r.least && (r.most < 0 || n <= r.most)
			if may {
				if got := p.ask(args...); got == "-"+unknown {
					t.Errorf("%q: %s", args, got)
				}
				continue
			}
			p.refusesWords(unknown, args...)
		}
	}
}
