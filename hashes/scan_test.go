package hashes

import (
	"fmt"
	"slices"
	"strings"
	"testing"

	"cistern/api"
)

// TestHA1Scan: cursors and options of hashes that are kept as a listpack and in the large form, and of none.
func TestHA1Scan(t *testing.T) {
	p := begun(t)
	p.want("HSET pack z 1 10 2 a 3 9 ''", ":4")
	p.want("HSET table a 1 b 2 ab 3 ba 4 abc 5 1 6 10 7 11 8", ":8")
	for _, c := range []struct{ line, want string }{
		{"pack 0", "[$0 [$z $1 $10 $2 $a $3 $9 $]]"}, {"pack 5", "[$0 [$z $1 $10 $2 $a $3 $9 $]]"}, {"pack " + greatest, "[$0 [$z $1 $10 $2 $a $3 $9 $]]"}, {"none 0", "[$0 []]"}, {"none 5 MATCH a COUNT 3 NOVALUES", "[$0 []]"},
		{"pack 0 COUNT 1", "[$0 [$z $1 $10 $2 $a $3 $9 $]]"}, {"pack 0 MATCH ?", "[$0 [$z $1 $a $3 $9 $]]"}, {"pack 0 MATCH [a-z]", "[$0 [$z $1 $a $3]]"}, {"pack 0 MATCH 3", "[$0 []]"}, {"pack 0 MATCH ''", "[$0 []]"}, {"pack 0 MATCH *", "[$0 [$z $1 $10 $2 $a $3 $9 $]]"}, {"pack 0 MATCH A", "[$0 []]"}, {"pack 0 MATCH \\a", "[$0 [$a $3]]"},
		{"pack 0 MATCH a MATCH 1*", "[$0 [$10 $2]]"}, {"pack 0 MATCH 1* MATCH a", "[$0 [$a $3]]"}, {"pack 0 COUNT 5 MATCH a", "[$0 [$a $3]]"}, {"pack 0 MATCH a COUNT 5", "[$0 [$a $3]]"}, {"pack 0 COUNT 1 COUNT 2", "[$0 [$z $1 $10 $2 $a $3 $9 $]]"}, {"pack 0 MATCH MATCH", "[$0 []]"}, {"pack 0 MATCH COUNT COUNT 1", "[$0 []]"},
		{"pack 0 NOVALUES", "[$0 [$z $10 $a $9]]"}, {"pack 7 NOVALUES", "[$0 [$z $10 $a $9]]"}, {"pack 0 NOVALUES MATCH ?", "[$0 [$z $a $9]]"}, {"pack 0 MATCH ? NOVALUES", "[$0 [$z $a $9]]"}, {"pack 0 COUNT 1 NOVALUES MATCH a", "[$0 [$a]]"}, {"pack 0 NOVALUES COUNT 1 MATCH a", "[$0 [$a]]"}, {"pack 0 MATCH a COUNT 1 NOVALUES", "[$0 [$a]]"}, {"pack 0 MATCH a MATCH z NOVALUES", "[$0 [$z]]"}, {"pack 0 NOVALUES MATCH a MATCH z", "[$0 [$z]]"}, {"pack 0 COUNT 2 COUNT 1 NOVALUES", "[$0 [$z $10 $a $9]]"},
		{"pack 0 MATCH NOVALUES", "[$0 []]"}, {"pack 0 MATCH NOVALUES NOVALUES", "[$0 []]"}, {"pack 0 NOVALUES MATCH NOVALUES", "[$0 []]"},
	} {
		p.keeps(c.want, split("HSCAN "+c.line)...)
	}
	p.wantWords(":1", "HSET", "pack2", "novalues", "1")
	p.want("HSCAN pack2 0 MATCH novalues", "[$0 [$novalues $1]]")
	v, _ := p.sp.Peek(0, "table")
	for _, cursor := range []int{0, 1, 2, 3, 7, 1000} {
		for _, n := range []int{1, 2, 5, 10, 1 << 40} {
			names, next, _ := v.Scan(cursor, n)
			with := func(list []string) string {
				var all []string
				for _, name := range list {
					text, _, _ := v.Field(name)
					all = append(all, name, text)
				}
				return fmt.Sprintf("[$%d %s]", next, told(bulks(api.ReplyArray, all)))
			}
			p.want(fmt.Sprintf("HSCAN table %d COUNT %d", cursor, n), with(names))
			p.want(fmt.Sprintf("HSCAN table %d NOVALUES COUNT %d", cursor, n), fmt.Sprintf("[$%d %s]", next, told(bulks(api.ReplyArray, names))))
			if n == 10 {
				p.want(fmt.Sprint("HSCAN table ", cursor), with(names))
			}
			if n == 2 {
				p.want(fmt.Sprintf("HSCAN table %d COUNT 7 COUNT 2", cursor), with(names))
			}
			match := slices.DeleteFunc(names, func(s string) bool { return !strings.HasPrefix(s, "a") })
			p.want(fmt.Sprintf("HSCAN table %d MATCH a* COUNT %d", cursor, n), with(match))
		}
	}
}

// TestHA1ScanMany: a compact hash of more fields than are sought one by one, with a pattern that lets few and many of them through.
func TestHA1ScanMany(t *testing.T) {
	for _, n := range []int{few - 1, few, few + 1, 300} {
		p := newTrial(t, greatestLimits())
		p.ask(numbered("HSET", "h", "m", 0, n)...)
		p.encoding("h", "listpack")
		for _, words := range []string{"", "MATCH m1*", "MATCH m?", "MATCH *", "NOVALUES", "MATCH none"} {
			p.ask(split("HSCAN h 0 " + words)...)
		}
	}
}

// TestHA1ScanErrors: cursors that can't be, options that can't be, alone and two at once.
func TestHA1ScanErrors(t *testing.T) {
	most, over := strings.Repeat("?", api.MaxPattern), strings.Repeat("?", api.MaxPattern+1)
	for _, kind := range kinds {
		p := withHashes(t)
		p.give(0, "w", kind)
		for _, key := range []string{"h", "none", "w"} {
			for _, word := range append(noNumbers(), "-1", least) {
				p.refusesWords(noCursor, "HSCAN", key, word)
				p.refusesWords(noCursor, "HSCAN", key, word, "MATCH", over)
				p.refusesWords(noCursor, "HSCAN", key, word, "BOGUS")
				p.refusesWords(noCursor, "HSCAN", key, word, "NOVALUES", "NOVALUES")
			}
			for _, words := range []string{
				"MATCH", "COUNT", "BOGUS", "''", "BOGUS 1", "MATCH a COUNT", "COUNT 1 MATCH", "COUNT 1 1", "MATCH a b", "1 COUNT", "a MATCH", "MATCH a BOGUS 1", "BOGUS 1 COUNT 1", "COUNT 0", "COUNT -1", "COUNT 0 MATCH a", "COUNT 1 COUNT 0", "COUNT 0 COUNT 1", "COUNT x COUNT 1", "COUNT 0 BOGUS 1", "BOGUS 1 COUNT 0", "TYPE hash", "WITHVALUES", "MATCHES a", "COUN 1",
				"NOVALUES NOVALUES", "NOVALUES novalues NOVALUES", "NOVALUES COUNT 1 NOVALUES", "NOVALUES NOVALUES COUNT 1", "MATCH a NOVALUES NOVALUES", "NOVALUES MATCH a NOVALUES", "NOVALUES 1", "NOVALUES a b", "NOVALUES COUNT", "NOVALUES MATCH", "MATCH a COUNT NOVALUES", "COUNT NOVALUES", "NOVALUE", "NOVALUESS", "NOVALUES COUNT 0", "COUNT 0 NOVALUES", "NOVALUES NOVALUES COUNT 0", "NOVALUES BOGUS",
			} {
				p.refuses("HSCAN "+key+" 0 "+words, syntax)
			}
			for _, word := range append(noNumbers(), "0", "-1", least) {
				p.refusesWords(syntax, "HSCAN", key, "0", "COUNT", word)
			}
			p.refusesWords(syntax, "HSCAN", key, "0", "MATCH", over)
			p.refusesWords(syntax, "HSCAN", key, "0", "MATCH", over, "MATCH", "a")
			p.refusesWords(syntax, "HSCAN", key, "0", "MATCH", "a", "MATCH", over)
			p.refusesWords(syntax, "HSCAN", key, "0", "MATCH", over, "COUNT", "0")
			p.refusesWords(syntax, "HSCAN", key, "0", "NOVALUES", "MATCH", over)
			p.refusesWords(unknown, "HSCAN", key, "0", "MATCH", "a", "COUNT", "1", "NOVALUES", "MATCH")
			p.refusesWords(unknown, "HSCAN", key, "0", "MATCH", "a", "COUNT", "1", "MATCH", "b")
		}
	}
	p := withHashes(t)
	name := strings.Repeat("m", api.MaxPattern)
	p.wantWords(":1", "HSET", "h", name, "x")
	p.wantWords("[$0 [$"+name+" $x]]", "HSCAN", "h", "0", "MATCH", most, "COUNT", "100")
	p.wantWords("[$0 []]", "HSCAN", "one", "0", "MATCH", most)
	p.want("HSCAN one 0 COUNT "+greatest, "[$0 [$e $5]]")
}

// scanned are the names and values that a step of a scan tells, and the next cursor.
func scanned(r api.Reply, bare bool) (map[string]string, string) {
	fields, list := map[string]string{}, texts(r.List[1])[1:]
	for len(list) > 0 {
		if bare {
			fields[list[0]], list = "", list[1:]
		} else {
			fields[list[0]], list = list[1], list[2:]
		}
	}
	return fields, r.List[0].Text
}

// TestHA2Scans: whole scans from cursor 0 to cursor 0, with fields put and erased between their steps: every name that was there all the while is told, each with the value that it has by then, and none that never was.
func TestHA2Scans(t *testing.T) {
	t.Parallel()
	steps := 0
	for seed := range 300 {
		m := mix(seed + 1)
		sp := newSpace(pick(&m, leastLimits(), leastLimits(), someLimits(), greatestLimits()))
		name := func() string { return fmt.Sprint(pick(&m, "", "m"), m.below(400)) }
		now := map[string]string{} // what is there
		put := func(name string) {
			now[name] = fmt.Sprint(m.below(1000))
			Do(sp, 0, []string{"HSET", "h", name, now[name]})
		}
		for range m.below(300) {
			put(name())
		}
		put("stays")
		all, left, met := map[string]bool{}, map[string]bool{}, map[string]bool{} // ever there; there all the while; told
		for name := range now {
			all[name], left[name] = true, true
		}
		grow := m.below(3)
		for cursor, first := "0", true; first || cursor != "0"; first = false {
			if steps++; steps > 100000 {
				t.Fatalf("seed %d: the scan does not end", seed)
			}
			words, bare := []string{"HSCAN", "h", cursor, "COUNT", fmt.Sprint(1 + m.below(12))}, m.below(3) == 0
			if bare {
				words = append(words, "NOVALUES")
			}
			var fields map[string]string
			fields, cursor = scanned(Do(sp, 0, words), bare)
			for name, text := range fields {
				met[name] = true
				if was, there := now[name]; !there || !bare && text != was {
					t.Fatalf("seed %d: %s with %s was told; %v, %s", seed, name, text, there, was)
				}
			}
			for range m.below(20) {
				if s := name(); m.below(3) < grow {
					put(s)
					all[s] = true
				} else {
					Do(sp, 0, []string{"HDEL", "h", s})
					delete(now, s)
					delete(left, s)
				}
			}
		}
		for s := range left {
			if !met[s] {
				t.Fatalf("seed %d: %s was there all the while, and was not told", seed, s)
			}
		}
		for s := range met {
			if !all[s] {
				t.Fatalf("seed %d: %s was told, and was never there", seed, s)
			}
		}
	}
	if steps < 1000 {
		t.Errorf("only %d steps", steps)
	}
}

// TestHA2ScanMatch: a whole scan with a pattern tells just the names that match.
func TestHA2ScanMatch(t *testing.T) {
	for _, limits := range allLimits() {
		p := newTrial(t, limits)
		p.ask(numbered("HSET", "h", "m", 0, 150)...)
		met := map[string]string{}
		for cursor, first := "0", true; first || cursor != "0"; first = false {
			var fields map[string]string
			fields, cursor = scanned(Do(p.sp, 0, []string{"HSCAN", "h", cursor, "MATCH", "m1?", "COUNT", "3"}), false)
			for name, text := range fields {
				met[name] = text
			}
		}
		if got := fmt.Sprint(met); got != "map[m10:v10 m11:v11 m12:v12 m13:v13 m14:v14 m15:v15 m16:v16 m17:v17 m18:v18 m19:v19]" {
			t.Errorf("the scan tells %s", got)
		}
	}
}

// TestHA2ScanAll: a scan of a hash that is not changed tells each field once, if no move goes on, with whatever count.
func TestHA2ScanAll(t *testing.T) {
	for _, n := range []int{1, 2, 3, 10, 100, 1000} {
		sp := newSpace(leastLimits())
		Do(sp, 0, numbered("HSET", "h", "m", 0, 100))
		for range 200 {
			Do(sp, 0, []string{"HSET", "h", "m1", "v1"}) // so that moves come to their end
		}
		var met []string
		for cursor, first := "0", true; first || cursor != "0"; first = false {
			r := Do(sp, 0, []string{"HSCAN", "h", cursor, "NOVALUES", "COUNT", fmt.Sprint(n)})
			met = append(met, texts(r.List[1])[1:]...)
			cursor = r.List[0].Text
		}
		slices.Sort(met)
		if want := texts(Do(sp, 0, []string{"HKEYS", "h"}))[1:]; !slices.Equal(met, want) {
			t.Errorf("COUNT %d: %q; want %q", n, met, want)
		}
	}
}
