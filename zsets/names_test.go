package zsets

import (
	"slices"
	"strings"
	"testing"

	"cistern/api"
	"cistern/table"
)

// mixed writes every other letter great.
func mixed(name string) string {
	b := []byte(strings.ToLower(name))
	for i := 1; i < len(b); i += 2 {
		b[i] -= 'a' - 'A'
	}
	return string(b)
}

// TestExamples: the chapter's examples.
func TestExamples(t *testing.T) {
	for _, limits := range allLimits() {
		p := newTrial(t, limits)
		p.want("ZADD z 2 b 1 a 1 c", ":3")
		p.want("ZRANGE z 0 -1 WITHSCORES", "[$a $1 $c $1 $b $2]")
		p.want("ZADD z GT 1 b", ":0")
		p.want("ZADD z XX INCR 5 a", "$6")
		p.want("ZADD z NX INCR 1 a", "_")
		p.want("ZRANK z b", ":1")
		p.want("ZREVRANGE z 0 0", "[$a]")
		p.want("ZRANGEBYSCORE z (1 +inf", "[$b $a]")
		p.want("ZRANGE z +inf (1 BYSCORE REV LIMIT 0 1", "[$a]")
		p.refuses("ZCOUNT z 1.5 2", "ERR min or max is not valid")
		p.want("ZUNION 2 z z WEIGHTS 1 2 WITHSCORES", "[$c $3 $b $6 $a $18]")
		p.refuses("ZADD z 9007199254740992 x", "ERR value is not a valid score")
	}
}

// TestP181Names: the rows' names, rising, each once; the list is the caller's.
func TestP181Names(t *testing.T) {
	want := []string{"zadd", "zcard", "zcount", "zdiff", "zdiffstore", "zincrby", "zinter", "zintercard", "zinterstore", "zlexcount", "zmscore", "zpopmax", "zpopmin", "zrandmember", "zrange", "zrangebylex", "zrangebyscore", "zrangestore", "zrank", "zrem", "zremrangebylex", "zremrangebyrank", "zremrangebyscore", "zrevrange", "zrevrangebylex", "zrevrangebyscore", "zrevrank", "zscan", "zscore", "zunion", "zunionstore"}
	got := Names()
	if !slices.Equal(got, want) {
		t.Fatalf("Names() = %q; want %q", got, want)
	}
	all := got[:cap(got)]
	for i := range all {
		all[i] = "spoilt"
	}
	_ = append(got[:0], "more")
	if again := Names(); !slices.Equal(again, want) {
		t.Errorf("Names() = %q behind work on an earlier answer", again)
	}
	var rows []string
	for _, r := range chapter() {
		rows = append(rows, r.name)
		spec, ok := table.Find(r.name)
		if !ok || spec.Least != r.least || spec.Most != r.most {
			t.Errorf("%s takes %d to %d words; the table says %d to %d", r.name, r.least, r.most, spec.Least, spec.Most)
		}
	}
	slices.Sort(rows)
	if !slices.Equal(rows, want) {
		t.Errorf("the rows are %q", rows)
	}
	if all := slices.DeleteFunc(table.All(), func(name string) bool { return name[0] != 'z' }); !slices.Equal(all, want) {
		t.Errorf("the table has %q", all)
	}
}

// samples are lines of each command that are not refused with the keys of withZsets.
func samples() []string {
	return []string{
		"zadd z 5 x 6 y", "zadd z 1 a", "zadd z 7 a", "zadd k 1 x 2 y", "zadd z nx 5 x 5 a", "zadd z xx ch 5 a 5 x", "zadd z gt 5 b 1 c", "zadd z lt ch 5 b 1 c", "zadd z incr 4 a", "zadd z xx incr 4 x", "zadd k incr 4 a", "zincrby z 4 a", "zincrby z 4 x", "zincrby k 4 x",
		"zrem z a b", "zrem z a b c", "zrem z x", "zrem k a", "zcard z", "zcard k", "zscore z a", "zscore z x", "zscore k a", "zmscore z a x c", "zmscore k a", "zrank z b", "zrank z b withscore", "zrank z x", "zrank z x withscore", "zrank k a", "zrevrank z b", "zrevrank z b withscore", "zrevrank k x withscore",
		"zcount z 1 2", "zcount z -inf (2", "zcount k 1 2", "zlexcount z [a (c", "zlexcount z - +", "zlexcount k - +", "zrange z 0 -1", "zrange z 0 1 withscores", "zrange z 0 1 rev", "zrange z 1 2 byscore limit 1 1", "zrange z 2 1 byscore rev withscores", "zrange z - + bylex", "zrange z + - rev bylex limit 0 2", "zrange k 0 -1", "zrange k 1 2 byscore withscores",
		"zrangestore d z 0 1", "zrangestore z z 1 2 byscore limit 1 1", "zrangestore d z + - bylex rev", "zrangestore z k 0 -1", "zrangestore s z 0 -1 rev", "zrevrange z 0 1", "zrevrange z 0 -1 withscores", "zrevrange k 0 -1", "zrangebyscore z 1 2", "zrangebyscore z (1 inf withscores limit 0 1", "zrangebyscore k 1 2", "zrevrangebyscore z 2 1", "zrevrangebyscore z +inf 1 limit 1 1 withscores", "zrevrangebyscore k 2 1", "zrangebylex z - +", "zrangebylex z [b [c limit 0 1", "zrangebylex k - +", "zrevrangebylex z + -", "zrevrangebylex z [c (a limit 1 1", "zrevrangebylex k + -",
		"zremrangebyrank z 0 0", "zremrangebyrank z 0 -1", "zremrangebyrank z 7 9", "zremrangebyrank k 0 -1", "zremrangebyscore z 1 1", "zremrangebyscore z -inf inf", "zremrangebyscore z 7 9", "zremrangebyscore k 1 1", "zremrangebylex z [a [b", "zremrangebylex z - +", "zremrangebylex z [x +", "zremrangebylex k - +",
		"zpopmin z", "zpopmin z 2", "zpopmin z 9", "zpopmin z 0", "zpopmin k", "zpopmin one", "zpopmax z", "zpopmax z 2", "zpopmax z 3", "zpopmax z 0", "zpopmax k 3", "zrandmember z", "zrandmember z 2", "zrandmember z 9 withscores", "zrandmember z 0", "zrandmember z -5 withscores", "zrandmember k", "zrandmember k -5", "zrandmember k 5 withscores",
		"zunion 2 z y", "zunion 2 z s withscores", "zunion 3 z k y weights 2 3 4 aggregate max withscores", "zunion 1 k", "zinter 2 z y", "zinter 2 z s weights 1 -1 withscores", "zinter 2 y z aggregate min", "zinter 2 z k", "zdiff 2 z y", "zdiff 3 z one s withscores", "zdiff 2 k z", "zunionstore d 2 z y", "zunionstore z 2 z y aggregate sum", "zunionstore s 1 k", "zinterstore d 2 z y weights 1 2", "zinterstore z 2 z one", "zdiffstore d 2 z y", "zdiffstore z 2 z z", "zintercard 2 z y", "zintercard 2 z s limit 1", "zintercard 1 k limit 0",
		"zscan z 0", "zscan z 0 match a*", "zscan z 0 count 1 match ?", "zscan z 3 match a match b", "zscan k 0 count 5",
	}
}

// optionWords are all words that are options, or part of one.
func optionWords() []string {
	return strings.Fields("nx xx gt lt ch incr withscore withscores byscore bylex rev limit weights aggregate sum min max match count inf -inf +inf")
}

// TestP181Letters: a name in small, great and mixed letters does the same, and so do the option words.
func TestP181Letters(t *testing.T) {
	done := map[string]int{}
	for _, sample := range samples() {
		var first string
		for i, spelt := range []func(string) string{strings.ToLower, strings.ToUpper, mixed} {
			p := withZsets(t)
			args := strings.Fields(sample)
			done[args[0]]++
			for j, word := range args {
				if j == 0 || slices.Contains(optionWords(), word) {
					args[j] = spelt(word)
				}
			}
			got := p.ask(args...) + "\n" + p.unused()
			if i == 0 {
				first = got
			}
			if got != first || strings.HasPrefix(got, "-") {
				t.Errorf("%q: %s; want %s", args, got, first)
			}
		}
	}
	for _, name := range Names() {
		if done[name] == 0 {
			t.Errorf("no sample of %s", name)
		}
	}
}

// TestP181OtherLetters: letters of the world that are near those of a word are none of it.
func TestP181OtherLetters(t *testing.T) {
	p := withZsets(t)
	for _, words := range []string{"ZRANK z a W\u0130THSCORE", "ZRANGE z 0 1 B\u00ddSCORE", "ZRANGE z 1 2 BY\u017fCORE", "ZRANGE z 1 2 BYSCORE L\u0130MIT 0 1", "ZRANGE z 1 2 BYSCORE l\u0131mit 0 1", "ZRANGE z 0 1 R\u00c9V", "ZUNION 1 z AGGREGATE M\u0130N", "ZUNION 1 z AGGREGATE \u017fum", "ZUNION 1 z WEIGHT\u017f 1", "ZSCAN z 0 M\u00c4TCH a", "ZRANDMEMBER z 1 WITH\u017fCORES"} {
		p.refuses(words, syntax)
	}
	p.refuses("ZADD z \u0130NCR 1", noScore)
	p.refuses("ZADD z I\u0145CR 1", noScore)
	p.refuses("ZADD z C\u0124 1 a", syntax)
	p.refuses("ZCOUNT z -\u0131nf +inf", noBound)
	p.refuses("ZCOUNT z -inf +\u0130nf", noBound)
	for _, words := range []string{"\u017bADD z 1 x", "\u017acard z", "ZD\u0130FF 1 z", "ZRE\u039c z a"} {
		p.refuses(words, unknown)
	}
}

// TestP181None: no words, names that are none, and the commands of other layers.
func TestP181None(t *testing.T) {
	p := withZsets(t)
	p.refusesWords(unknown)
	if r := Do(p.sp, 0, nil); !same(r, api.Reply{Kind: api.ReplyError, Text: unknown}) {
		t.Errorf("no words: %+v", r)
	}
	for _, name := range []string{"", " ", "fly", "zad", "zaddd", " zadd", "zadd ", "zadd\x00", "z\xe1dd", "zdiffcard", "zunioncard", "zinterstor", "zrevrangestore", "zremrange", "zpop", "zmpop", "bzpopmin", "set", "get", "del", "lpush", "hset", "sadd", "sinter", "scan", "sort", "save", "select", strings.Repeat("zcard", 1000)} {
		p.refusesWords(unknown, name)
		p.refusesWords(unknown, name, "z")
		p.refusesWords(unknown, name, "z", "y")
		p.refusesWords(unknown, name, "z", "1", "a")
		p.refusesWords(unknown, name, "1", "z", "LIMIT", "1")
	}
}

// TestP181Arity: of each command one word fewer than it takes, one more, and many more; what is within is not refused so.
func TestP181Arity(t *testing.T) {
	for _, r := range chapter() {
		for n := 1; n < 14; n++ {
			p := withZsets(t)
			args := []string{r.name}
			for len(args) < n {
				args = append(args, pick(new(mix(n*7+len(args))), "z", "1", "y"))
			}
			if n >= r.least && (r.most < 0 || n <= r.most) {
				if got := p.ask(args...); got == "-"+unknown {
					t.Errorf("%q: %s", args, got)
				}
				continue
			}
			p.refusesWords(unknown, args...)
		}
	}
}
