package sets

import (
	"fmt"
	"slices"
	"strings"
	"testing"

	"cistern/api"
)

// withSeveral is a trial with the sets a, b, c in different encodings, and none.
func withSeveral(t testing.TB, limits api.Thresholds) *trial {
	t.Helper()
	p := newTrial(t, limits)
	p.want("SADD a 1 2 3 10", ":4")
	p.want("SADD b 2 3 x 10 y", ":5")
	p.want("SADD c 10 3 z", ":3")
	p.want("SADD apart q r", ":2")
	return p
}

// TestP161Several: of one key, of several, of the same key twice, of keys that are not there.
func TestP161Several(t *testing.T) {
	for _, limits := range allLimits() {
		for _, c := range []struct{ line, want string }{
			{"SINTER a", "{$1 $10 $2 $3}"}, {"SINTER a b", "{$10 $2 $3}"}, {"SINTER b a", "{$10 $2 $3}"}, {"SINTER a b c", "{$10 $3}"}, {"SINTER c b a", "{$10 $3}"}, {"SINTER a a", "{$1 $10 $2 $3}"}, {"SINTER a b a b", "{$10 $2 $3}"}, {"SINTER a none", "{}"}, {"SINTER none a", "{}"}, {"SINTER none", "{}"}, {"SINTER none none", "{}"}, {"SINTER a apart", "{}"}, {"SINTER a b c apart", "{}"},
			{"SUNION a", "{$1 $10 $2 $3}"}, {"SUNION a b", "{$1 $10 $2 $3 $x $y}"}, {"SUNION b a", "{$1 $10 $2 $3 $x $y}"}, {"SUNION a b c apart", "{$1 $10 $2 $3 $q $r $x $y $z}"}, {"SUNION a a", "{$1 $10 $2 $3}"}, {"SUNION a none", "{$1 $10 $2 $3}"}, {"SUNION none a none", "{$1 $10 $2 $3}"}, {"SUNION none", "{}"}, {"SUNION none none", "{}"},
			{"SDIFF a", "{$1 $10 $2 $3}"}, {"SDIFF a b", "{$1}"}, {"SDIFF b a", "{$x $y}"}, {"SDIFF b a c", "{$x $y}"}, {"SDIFF c a b", "{$z}"}, {"SDIFF b c a", "{$x $y}"}, {"SDIFF a a", "{}"}, {"SDIFF a b a", "{}"}, {"SDIFF a b b", "{$1}"}, {"SDIFF a none", "{$1 $10 $2 $3}"}, {"SDIFF none a", "{}"}, {"SDIFF none", "{}"}, {"SDIFF none none", "{}"}, {"SDIFF a apart none", "{$1 $10 $2 $3}"},
		} {
			p := withSeveral(t, limits)
			p.keeps(c.want, split(c.line)...)
			name, keys, _ := strings.Cut(c.line, " ")
			n := len(split(c.want[1 : len(c.want)-1]))
			p.want(name+"STORE d "+keys, fmt.Sprint(":", n))
			p.want("SMEMBERS d", c.want)
			if n == 0 {
				p.due("d", 0)
			}
			if name == "SINTER" {
				p.want(fmt.Sprintf("SINTERCARD %d %s", len(split(keys)), keys), fmt.Sprint(":", n))
			}
		}
	}
}

// TestP161SeveralKinds: one key of the wrong kind, wherever it stands, ahead of all else.
func TestP161SeveralKinds(t *testing.T) {
	for _, kind := range others() {
		p := withSets(t)
		p.give(0, "w", kind)
		for _, keys := range []string{"w", "w s", "s w", "s t w", "none w", "none none w", "s s w", "w w", "one t w", "s w none"} {
			for _, name := range []string{"SINTER", "SUNION", "SDIFF", "SINTERSTORE d", "SUNIONSTORE s", "SDIFFSTORE w", "SINTERSTORE none"} {
				p.refuses(name+" "+keys, wrongType)
			}
			n := len(split(keys))
			p.refuses(fmt.Sprintf("SINTERCARD %d %s", n, keys), wrongType)
			p.refuses(fmt.Sprintf("SINTERCARD %d %s LIMIT 1", n, keys), wrongType)
		}
	}
}

// TestP161Store: dest of all kinds: it goes, if the set is empty, else it is made anew, without an expiry; dest may be one of the keys.
func TestP161Store(t *testing.T) {
	for _, c := range []struct{ line, want, members string }{
		{"SINTERSTORE d s t", ":2", "b c"}, {"SUNIONSTORE d s t", ":4", "a b c d"}, {"SDIFFSTORE d s t", ":1", "a"}, {"SINTERSTORE d s one", ":0", ""}, {"SUNIONSTORE d none", ":0", ""}, {"SDIFFSTORE d s s", ":0", ""}, {"SUNIONSTORE d one", ":1", "e"},
	} {
		for _, kind := range append(slices.Clone(kinds), 0) {
			p := withSets(t)
			if kind != 0 {
				p.give(0, "d", kind)
				p.expire(0, "d", 5000)
			}
			mark := p.sp.Mark(0, "d")
			p.want(c.line, c.want)
			p.holds("d", c.members)
			if c.members == "" {
				p.due("d", 0)
				continue
			}
			p.due("d", -1)
			if p.sp.Mark(0, "d") == mark {
				t.Errorf("%s: the mark of d is as it was", c.line)
			}
			p.holds("s", "a b c")
			p.holds("t", "b c d")
		}
	}
	for _, c := range []struct{ line, want, members string }{
		{"SINTERSTORE s s t", ":2", "b c"}, {"SINTERSTORE s t s", ":2", "b c"}, {"SUNIONSTORE s s t", ":4", "a b c d"}, {"SUNIONSTORE s t s one", ":5", "a b c d e"}, {"SDIFFSTORE s s t", ":1", "a"}, {"SDIFFSTORE s t s", ":1", "d"}, {"SUNIONSTORE s s", ":3", "a b c"}, {"SINTERSTORE s s s", ":3", "a b c"}, {"SDIFFSTORE s s", ":3", "a b c"}, {"SINTERSTORE s s one", ":0", ""}, {"SDIFFSTORE s s s", ":0", ""}, {"SINTERSTORE s s none", ":0", ""},
	} {
		p := withSets(t)
		p.expire(0, "s", 5000)
		p.want(c.line, c.want)
		p.holds("s", c.members)
		p.holds("t", "b c d")
		if c.members != "" {
			p.due("s", -1)
		}
	}
	p := withSets(t)
	key := strings.Repeat("k", api.MaxKey+1)
	for _, name := range []string{"SINTERSTORE", "SUNIONSTORE", "SDIFFSTORE"} {
		p.refusesWords(tooLarge, name, key, "s")
		p.keeps(":0", name, key, "none")
		p.wantWords(":3", name, key[1:], "s")
	}
}

// TestStoreKept: a set that is made has its members rising, and the encoding to which they come with the space's thresholds of now.
func TestStoreKept(t *testing.T) {
	p := begun(t)
	p.want("SADD n 5 1 3", ":3")
	p.want("SADD m x 5 a", ":3")
	p.want("SADD large 1 2 3 4 5 6", ":6")
	p.want("SUNIONSTORE d n", ":3")
	p.encoding("d", "intset")
	p.want("SINTERSTORE d n large", ":3")
	p.encoding("d", "intset")
	p.want("SUNIONSTORE d m", ":3")
	p.encoding("d", "listpack")
	p.want("SSCAN d 0", "[$0 [$5 $a $x]]")
	p.want("SSCAN m 0", "[$0 [$x $5 $a]]")
	p.want("SDIFFSTORE d large n", ":3")
	p.encoding("d", "intset")
	p.want("SUNIONSTORE d m n", ":5")
	p.encoding("d", "hashtable")
	p.want("SUNIONSTORE large n", ":3")
	p.encoding("large", "intset")
	c := p.sp.Config()
	c.Limits.SetInts = 2
	p.sp.Adjust(c)
	p.m.limits = c.Limits
	p.want("SUNIONSTORE d n", ":3")
	p.encoding("d", "listpack")
	p.want("SMOVE n made 1", ":1")
	p.want("SADD made 2 3", ":2")
	p.encoding("made", "listpack")
	p.want("SADD n 7 9", ":2")
	p.encoding("n", "intset")
}

// TestP161Card: the number of keys, the words behind them, the limit.
func TestP161Card(t *testing.T) {
	p := withSeveral(t, someLimits())
	for _, c := range []struct{ line, want string }{
		{"1 a", ":4"}, {"2 a b", ":3"}, {"3 a b c", ":2"}, {"2 a none", ":0"}, {"1 none", ":0"}, {"2 a a", ":4"}, {"2 a apart", ":0"},
		{"2 a b LIMIT 0", ":3"}, {"2 a b LIMIT 1", ":1"}, {"2 a b LIMIT 2", ":2"}, {"2 a b LIMIT 3", ":3"}, {"2 a b LIMIT 4", ":3"}, {"2 a b LIMIT " + greatest, ":3"}, {"2 a none LIMIT 1", ":0"}, {"1 none LIMIT 0", ":0"},
		{"1 LIMIT", ":0"}, {"2 a LIMIT", ":0"}, {"3 a LIMIT 1", ":0"}, {"1 LIMIT LIMIT 1", ":0"}, {"3 a b LIMIT LIMIT 1", ":0"},
		{"2 a", "-" + manyKeys}, {"3 a b", "-" + manyKeys}, {"4 a LIMIT 1", "-" + manyKeys}, {greatest + " a", "-" + manyKeys}, {"1048577 a b", "-" + manyKeys},
		{"1 a b", "-" + syntax}, {"1 a LIMIT", "-" + syntax}, {"1 a b LIMIT 1", "-" + syntax}, {"1 a LIMIT 1 more", "-" + syntax}, {"1 a LIMIT 1 LIMIT 1", "-" + syntax}, {"1 a LIMIT -1 more", "-" + syntax}, {"1 a LIMITS 1", "-" + syntax}, {"1 a 1 LIMIT", "-" + syntax}, {"1 a COUNT 1", "-" + syntax}, {"1 a '' 1", "-" + syntax},
		{"1 a LIMIT -1", "-" + noLimit}, {"2 none none LIMIT " + least, "-" + noLimit},
	} {
		p.keeps(c.want, split("SINTERCARD "+c.line)...)
	}
	for _, word := range append(noNumbers(), "0", "-1", least) {
		p.refusesWords(noKeys, "SINTERCARD", word, "a")
		p.refusesWords(noKeys, "SINTERCARD", word, "a", "b", "LIMIT", "-1")
	}
	for _, word := range noNumbers() {
		p.refusesWords(syntax, "SINTERCARD", "1", "a", "LIMIT", word)
	}
}

// TestSeveralMany: sets of all sizes in all encodings, so that members are sought one by one and in lists; keys that stand many times.
func TestSeveralMany(t *testing.T) {
	t.Parallel()
	m := mix(12)
	for range 60 {
		p := newTrial(t, pick(&m, allLimits()...))
		keys := []string{"none"}
		for i := range 1 + m.below(4) {
			key := fmt.Sprint("k", i)
			keys = append(keys, key)
			p.ask(numbered("SADD", key, pick(&m, "", "", "m"), m.below(40), 1+m.below(pick(&m, 3, 20, 60)))...)
			if m.below(3) == 0 {
				p.ask("SADD", key, "x")
			}
		}
		for range 10 {
			words := []string{pick(&m, "SINTER", "SUNION", "SDIFF", "SINTERSTORE", "SUNIONSTORE", "SDIFFSTORE")}
			for range 2 + m.below(5) {
				words = append(words, pick(&m, keys[m.below(2):]...))
			}
			if strings.HasSuffix(words[0], "STORE") {
				words[1] = "d"
			}
			p.ask(words...)
		}
	}
	p := withSeveral(t, someLimits())
	many := slices.Repeat([]string{"a", "b"}, 50000)
	p.wantWords("{$10 $2 $3}", append([]string{"SINTER"}, many...)...)
	p.wantWords("{$1 $10 $2 $3 $x $y}", append([]string{"SUNION"}, many...)...)
	p.wantWords("{}", append([]string{"SDIFF"}, many...)...)
	p.wantWords("{$z}", append([]string{"SDIFF", "c"}, many...)...)
}
