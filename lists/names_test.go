package lists

import (
	"slices"
	"strings"
	"testing"

	"cistern/api"
)

// TestExamples: the chapter's examples.
func TestExamples(t *testing.T) {
	for _, limits := range []api.Thresholds{leastLimits(), someLimits(), greatestLimits()} {
		p := newTrial(t, limits)
		p.want("RPUSH l a b c", ":3")
		p.want("LPUSH l x y", ":5")
		p.want("LRANGE l 0 -1", "[$y $x $a $b $c]")
		p.want("LINSERT l BEFORE a z", ":6")
		p.want("LREM l -1 c", ":1")
		p.want("LPOS l a RANK -1", ":3")
		p.refuses("LSET l 9 q", "ERR index out of range")
		p.want("LTRIM l 1 2", "+OK")
		p.want("LRANGE l 0 -1", "[$x $z]")
		p.want("LMOVE l m LEFT RIGHT", "$x")
		p.want("LMPOP 2 none m LEFT COUNT 5", "[$m [$x]]")
	}
}

// TestLI1Names: the rows' names, rising, each once; the list is the caller's.
func TestLI1Names(t *testing.T) {
	want := []string{"lindex", "linsert", "llen", "lmove", "lmpop", "lpop", "lpos", "lpush", "lpushx", "lrange", "lrem", "lset", "ltrim", "rpop", "rpoplpush", "rpush", "rpushx"}
	got := Names()
	if !slices.Equal(got, want) {
		t.Fatalf("Names() = %q; want %q", got, want)
	}
	all := got[:cap(got)]
	for i := range all {
		all[i] = "spoilt"
	}
	_ = append(got[:0], "more")
	if again := Names(); !slices.Equal(again, want) {
		t.Errorf("Names() = %q behind work on an earlier answer", again)
	}
	var rows []string
	for _, r := range chapter() {
		rows = append(rows, r.name)
	}
	slices.Sort(rows)
	if !slices.Equal(rows, want) {
		t.Errorf("the rows are %q", rows)
	}
}

// mixed writes every other letter great.
func mixed(name string) string {
	b := []byte(strings.ToLower(name))
	for i := 1; i < len(b); i += 2 {
		b[i] -= 'a' - 'A'
	}
	return string(b)
}

// samples are lines of each command that are not refused where the keys s and t are lists of a, b, c.
func samples() []string {
	return []string{
		"lpush s x y", "lpush k x y", "rpush s x y", "rpush k x", "lpushx s x", "lpushx k x", "rpushx s x", "rpushx k x",
		"lpop s", "lpop s 2", "lpop k", "lpop k 2", "rpop s", "rpop s 2", "rpop k", "llen s", "llen k", "lindex s 1", "lindex k 1", "lset s 1 x",
		"linsert s before b x", "linsert s after b x", "linsert s after x y", "linsert k before b x", "lrange s 0 1", "lrange k 0 1", "lrem s 0 b", "lrem s 0 x", "ltrim s 1 1", "ltrim k 1 1",
		"lpos s b", "lpos s x", "lpos s b rank -1 count 0 maxlen 2", "lmove s t left right", "lmove s s right left", "lmove s k left left", "lmove k s left left", "rpoplpush s t", "rpoplpush s k", "rpoplpush k s",
		"lmpop 1 s left", "lmpop 2 k s right count 2", "lmpop 1 k left",
	}
}

// withLists is a trial whose keys s and t are lists of a, b, c.
func withLists(t testing.TB) *trial {
	t.Helper()
	p := begun(t)
	p.want("RPUSH s a b c", ":3")
	p.want("RPUSH t a b c", ":3")
	return p
}

// TestLI1Letters: a name in small, great and mixed letters does the same, and so do the words that are no keys, numbers or entries.
func TestLI1Letters(t *testing.T) {
	done := map[string]int{}
	options := strings.Fields("before after left right rank count maxlen")
	for _, sample := range samples() {
		var first string
		for i, spelt := range []func(string) string{strings.ToLower, strings.ToUpper, mixed} {
			p := withLists(t)
			args := strings.Fields(sample)
			done[args[0]]++
			for j, word := range args {
				if j == 0 || slices.Contains(options, word) {
					args[j] = spelt(word)
				}
			}
			got := p.ask(args...) + "\n" + p.unused()
			if i == 0 {
				first = got
			}
			if got != first || strings.HasPrefix(got, "-") {
				t.Errorf("%q: %s; want %s", args, got, first)
			}
		}
	}
	for _, name := range Names() {
		if done[name] == 0 {
			t.Errorf("no sample of %s", name)
		}
	}
}

// TestLI1OtherLetters: letters of the world that are near those of an option word are none of it.
func TestLI1OtherLetters(t *testing.T) {
	p := withLists(t)
	for _, words := range []string{"LPOS s a RAN\u212a 1", "LPOS s a \u017dCOUNT 1", "LMOVE s t LEFT R\u0130GHT", "LMOVE s t l\u00e9ft left", "LINSERT s BEFOR\u0112 a x", "LMPOP 1 s LEFT C\u00d3UNT 1", "LMPOP 1 s R\u0131GHT"} {
		p.refuses(words, syntax)
	}
	p.refuses("RPU\u017fH s a", unknown)
}

// TestLI1None: no words, names that are none, and the commands of other layers.
func TestLI1None(t *testing.T) {
	p := withLists(t)
	p.refusesWords(unknown)
	if r := Do(p.sp, 0, nil); !same(r, api.Reply{Kind: api.ReplyError, Text: unknown}) {
		t.Errorf("no words: %+v", r)
	}
	for _, name := range []string{"", " ", "fly", "lpus", "lpushh", " lpush", "lpush ", "lpush\x00", "lp\xe9sh", "lpushxx", "rmove", "rpos", "rset", "blpop", "lpoplpush", "rpoprpush", "get", "set", "del", "sadd", "hset", "zadd", "exists", "sort", strings.Repeat("lpop", 1000)} {
		p.refusesWords(unknown, name)
		p.refusesWords(unknown, name, "s")
		p.refusesWords(unknown, name, "s", "t")
		p.refusesWords(unknown, name, "s", "1", "1")
		p.refusesWords(unknown, name, "s", "t", "LEFT", "RIGHT")
	}
}

// TestLI1Arity: of each command one word fewer than it takes, one more, and many more; what is within is not refused so.
func TestLI1Arity(t *testing.T) {
	for _, r := range chapter() {
		for n := 1; n < 14; n++ {
			p := withLists(t)
			args := []string{r.name}
			for len(args) < n {
				args = append(args, pick(new(mix(n*7+len(args))), "s", "1", "t"))
			}
			may := n >= r.least && (r.most < 0 || n <= r.most)
			if may {
				if got := p.ask(args...); got == "-"+unknown {
					t.Errorf("%q: %s", args, got)
				}
				continue
			}
			p.refusesWords(unknown, args...)
		}
	}
}
