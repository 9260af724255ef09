package keys

import (
	"fmt"
	"slices"
	"strings"
	"testing"

	"cistern/api"
)

// sortable are the kinds that can be sorted.
var sortable = []int{api.KindList, api.KindSet, api.KindZset}

// TestKY1SortEncodings: a list, a set and a sorted set in each of their encodings: what is told hangs on what they hold alone, and they stay as they were.
func TestKY1SortEncodings(t *testing.T) {
	encodings := map[string]int{}
	for _, limits := range allLimits() {
		for _, kind := range sortable {
			for _, entries := range []string{"3 1 2", "10 9 -1 0 100 -20 7", "5"} {
				p := newTrial(t, limits)
				p.give(0, "k", kind, split(entries)...)
				v, _ := p.sp.Peek(0, "k")
				encodings[fmt.Sprint(kind, " ", v.Encoding())]++
				want := map[string]string{"3 1 2": "[$1 $2 $3]", "10 9 -1 0 100 -20 7": "[$-20 $-1 $0 $7 $9 $10 $100]", "5": "[$5]"}[entries]
				bytes := map[string]string{"3 1 2": "[$1 $2 $3]", "10 9 -1 0 100 -20 7": "[$-1 $-20 $0 $10 $100 $7 $9]", "5": "[$5]"}[entries]
				p.keeps(want, "SORT", "k")
				p.keeps(want, "SORT", "k", "ASC")
				p.keeps(bytes, "SORT", "k", "ALPHA")
				p.keeps(turned(want), "SORT", "k", "DESC")
				p.keeps(turned(bytes), "SORT", "k", "ALPHA", "DESC")
			}
			p := newTrial(t, limits)
			p.give(0, "k", kind, "b", "a", "B", "", "a long one that is no number", "10", "9", "\xff")
			v, _ := p.sp.Peek(0, "k")
			encodings[fmt.Sprint(kind, " ", v.Encoding())]++
			p.keeps("[$ $10 $9 $B $a $a long one that is no number $b $\xff]", "SORT", "k", "ALPHA")
			p.refuses("SORT k", noDouble)
		}
	}
	for _, want := range []string{"2 listpack", "2 quicklist", "3 intset", "3 listpack", "3 hashtable", "4 listpack", "4 skiplist"} {
		if encodings[want] == 0 {
			t.Errorf("no value of kind and encoding %s", want)
		}
	}
}

// TestKY1SortCopy: what is sorted is a copy: the texts that it is made of stay as they stand, whether or not they can be sorted.
func TestKY1SortCopy(t *testing.T) {
	for _, o := range []order{{}, {falling: true}, {byBytes: true}, {byBytes: true, falling: true}} {
		for _, list := range [][]string{{"10", "9", "1"}, {"3", "x", "1"}} {
			kept := slices.Clone(list)
			sorted, err := o.sorted(list)
			if !slices.Equal(list, kept) {
				t.Errorf("%+v: %q has become %q", o, kept, list)
			}
			if err == nil && slices.Equal(sorted, kept) && !o.falling {
				t.Errorf("%+v: %q is not sorted", o, sorted)
			}
		}
	}
}

// turned turns a list that was told in one line round.
func turned(list string) string {
	words := strings.Fields(strings.Trim(list, "[]"))
	slices.Reverse(words)
	return "[" + strings.Join(words, " ") + "]"
}

// TestKY1SortNumbers: numbers of 64 bits by their size, equal ones beside each other; one text that is no number's is an error, wherever it stands and however little is told.
func TestKY1SortNumbers(t *testing.T) {
	p := newTrial(t, someLimits())
	p.give(0, "k", api.KindList, greatest, "7", least, "-7", "7", "0", "10", "9", "-10", "7", "9223372036854775806", "-9223372036854775807")
	p.want("SORT k", "[$"+least+" $-9223372036854775807 $-10 $-7 $0 $7 $7 $7 $9 $10 $9223372036854775806 $"+greatest+"]")
	p.want("SORT k LIMIT 4 4 DESC", "[$7 $7 $7 $0]")
	for _, word := range noNumbers() {
		for _, kind := range sortable {
			for at := range 3 {
				entries := slices.Insert([]string{"3", "1"}, at, word)
				p.give(0, "n", kind, entries...)
				p.refuses("SORT n", noDouble)
				p.refuses("SORT n DESC LIMIT 0 1", noDouble)
				p.refuses("SORT n LIMIT 0 0", noDouble)
				p.refuses("SORT n LIMIT 99 1", noDouble)
				p.refuses("SORT n STORE k", noDouble)
				p.refuses("SORT n STORE n LIMIT 0 0", noDouble)
				slices.Sort(entries)
				p.keeps(told(bulks(entries...)), "SORT", "n", "ALPHA")
			}
		}
	}
	p.give(0, "e", api.KindList, "", "", "1")
	p.want("SORT e ALPHA", "[$ $ $1]")
	p.refuses("SORT e", noDouble)
}

// TestKY1SortOrder: ASC and DESC, of which the last counts, and ALPHA, in any letters and order.
func TestKY1SortOrder(t *testing.T) {
	p := newTrial(t, someLimits())
	p.give(0, "k", api.KindList, "10", "9", "1", "9")
	for _, c := range []struct{ options, want string }{
		{"", "[$1 $9 $9 $10]"}, {"ASC", "[$1 $9 $9 $10]"}, {"desc", "[$10 $9 $9 $1]"}, {"DESC ASC", "[$1 $9 $9 $10]"}, {"asc Desc", "[$10 $9 $9 $1]"}, {"DESC DESC", "[$10 $9 $9 $1]"}, {"DESC asc DESC ASC", "[$1 $9 $9 $10]"},
		{"ALPHA", "[$1 $10 $9 $9]"}, {"alpha DESC", "[$9 $9 $10 $1]"}, {"DESC Alpha", "[$9 $9 $10 $1]"}, {"ALPHA ALPHA", "[$1 $10 $9 $9]"}, {"DESC ALPHA ASC", "[$1 $10 $9 $9]"},
		{"LIMIT 1 2", "[$9 $9]"}, {"LIMIT 1 2 DESC", "[$9 $9]"}, {"DESC LIMIT 0 1", "[$10]"}, {"ALPHA LIMIT 1 1 DESC", "[$9]"}, {"LIMIT 0 1 ALPHA DESC", "[$9]"}, {"limit 2 9 alpha", "[$9 $9]"},
	} {
		p.keeps(c.want, split("SORT k "+c.options)...)
	}
}

// TestKY1SortLimit: S and N of 0, below 0, within, at the end, beyond; the last LIMIT counts, only its words must be numbers.
func TestKY1SortLimit(t *testing.T) {
	p := newTrial(t, someLimits())
	p.give(0, "k", api.KindSet, "5", "4", "3", "2", "1")
	all := []string{"1", "2", "3", "4", "5"}
	for _, s := range []string{least, "-9", "-1", "0", "1", "2", "4", "5", "6", "100", greatest} {
		for _, n := range []string{least, "-9", "-1", "0", "1", "2", "4", "5", "6", "100", greatest} {
			skip, _ := within(s, -1<<63, 1<<63-1)
			most, _ := within(n, -1<<63, 1<<63-1)
			left := all
			for i := 0; i < skip && len(left) > 0; i++ {
				left = left[1:]
			}
			for most >= 0 && len(left) > most {
				left = left[:len(left)-1]
			}
			p.keeps(told(bulks(left...)), "SORT", "k", "LIMIT", s, n)
			p.keeps(told(bulks(left...)), "SORT", "k", "LIMIT", "1", "1", "limit", s, n)
			p.keeps(told(bulks(left...)), "SORT", "k", "LIMIT", "x", "y", "LIMIT", s, n)
			p.wantWords(told(number(len(left))), "SORT", "k", "LIMIT", s, n, "STORE", "d")
		}
	}
	for _, word := range noNumbers() {
		for _, key := range []string{"k", "none"} {
			p.refusesWords(noNumber, "SORT", key, "LIMIT", word, "1")
			p.refusesWords(noNumber, "SORT", key, "LIMIT", "1", word)
			p.refusesWords(noNumber, "SORT", key, "LIMIT", word, word, "STORE", "k")
			p.refusesWords(noNumber, "SORT", key, "LIMIT", "0", "1", "LIMIT", "0", word)
		}
	}
	p.want("SORT k LIMIT LIMIT LIMIT LIMIT 1 1", "[$2]")
}

// TestKY1SortStore: onto another key, onto its own, onto keys of every kind; what was there has no part in it; with nothing to store the key goes.
func TestKY1SortStore(t *testing.T) {
	for _, kind := range sortable {
		for _, dest := range []string{"new", "k", "str", "list", "set", "zset", "hash", "timed"} {
			p := withKeys(t)
			p.give(0, "k", kind, "10", "9", "1")
			p.expire(0, "k", 6000)
			mark := p.sp.Mark(0, "k")
			was := seenIn(p.sp, 0, "k")
			p.want("SORT k STORE "+dest, ":3")
			if got := p.entries(dest); got != "1 9 10" {
				t.Errorf("%s holds %s", dest, got)
			}
			p.due(0, dest, -1)
			if p.sp.Mark(0, dest) <= mark || p.sp.Idle(0, dest) != 0 {
				t.Errorf("%s has the mark %d, idle %d", dest, p.sp.Mark(0, dest), p.sp.Idle(0, dest))
			}
			if now := seenIn(p.sp, 0, "k"); dest != "k" && (without(now) != without(was) || now.mark != mark || now.idle != 1) {
				t.Errorf("SORT k STORE %s: k was %v and is %v", dest, was, now)
			}
			p.want("SORT k DESC ALPHA store none STORE "+dest+" LIMIT 0 2", ":2")
			if got := p.entries(dest); got != "9 10" && got != "10 1" {
				t.Errorf("%s holds %s", dest, got)
			}
			p.want("EXISTS none", ":0")
			for _, line := range []string{"SORT k LIMIT 0 0 STORE " + dest, "SORT nothing STORE " + dest} {
				p.give(0, dest, api.KindList, "1")
				p.want(line, ":0")
				p.want("EXISTS "+dest, ":0")
				p.want(line, ":0")
			}
		}
	}
}

// TestKY1SortStored: what is stored is a list by the space's thresholds of now, with a memory of its own.
func TestKY1SortStored(t *testing.T) {
	for _, limits := range allLimits() {
		sp := newSpace(greatestLimits())
		sp.Put(0, "k", made(api.KindList, greatestLimits(), "5", "4", "3", "2", "1"))
		c := sp.Config()
		c.Limits = limits
		sp.Adjust(c)
		if got := told(Do(sp, 0, split("SORT k STORE d"))); got != ":5" {
			t.Fatal(got)
		}
		v, _ := sp.Peek(0, "d")
		if want := made(api.KindList, limits, "1", "2", "3", "4", "5"); shows(v) != shows(want) {
			t.Errorf("d is %s; want %s", shows(v), shows(want))
		}
		v.Push(true, "0")
		if got := told(Do(sp, 0, split("SORT k DESC"))); got != "[$5 $4 $3 $2 $1]" {
			t.Errorf("behind work on d k is %s", got)
		}
	}
	p := withKeys(t)
	long := strings.Repeat("k", maxKey)
	p.refusesWords(tooLarge, "SORT", "list", "STORE", long+"k")
	p.wantWords(":0", "SORT", "none", "STORE", long+"k")
	p.wantWords(":0", "SORT", "list", "LIMIT", "3", "1", "STORE", long+"k")
	p.wantWords(":3", "SORT", "list", "STORE", long)
	p.wantWords(":3", "SORT", "list", "STORE", "")
}

// TestKY1SortErrors: options that are none, words that are missing, values of the wrong kind; two at once.
func TestKY1SortErrors(t *testing.T) {
	for _, key := range []string{"list", "none", "str", "hash"} {
		p := withKeys(t)
		uses := p.uses(0)
		for _, options := range []string{"BOGUS", "''", "LIMIT", "LIMIT 1", "STORE", "LIMIT 0", "ASC LIMIT 1", "ALPHA STORE", "DESC 1", "LIMIT 0 1 2", "STORE a b", "BY x", "GET #", "LIMIT x y BOGUS", "LIMIT x", "BOGUS LIMIT x y", "STORE a LIMIT", "LIMIT 0 1 STORE", "DESCENDING", "ASC DESC BOGUS"} {
			p.refuses("SORT "+key+" "+options, syntax)
		}
		p.refuses("SORT "+key+" LIMIT x y", noNumber)
		p.refuses("SORT "+key+" LIMIT 0 y STORE timed", noNumber)
		if got := p.uses(0); got != uses {
			t.Errorf("SORT %s: the uses are %s; want %s", key, got, uses)
		}
	}
	for _, key := range []string{"str", "hash"} {
		for _, options := range []string{"", "ALPHA", "LIMIT 0 0", "STORE timed", "STORE " + key, "LIMIT 0 0 STORE " + key, "STORE none"} {
			p := withKeys(t)
			p.refuses("SORT "+key+" "+options, wrongType)
			if got := p.sp.Idle(0, key); got != 0 {
				t.Errorf("SORT %s %s: it is idle for %d", key, options, got)
			}
		}
		p := withKeys(t)
		p.refusesWords(wrongType, "SORT", key, "STORE", strings.Repeat("k", maxKey+1))
	}
	p := withKeys(t)
	p.give(0, "list", api.KindList, "1", "x")
	p.refusesWords(noDouble, "SORT", "list", "STORE", strings.Repeat("k", maxKey+1))
}

// TestKY1SortUses: the key is used, once, the other is only by being written; nothing is used that is not there.
func TestKY1SortUses(t *testing.T) {
	p := withKeys(t)
	p.want("TOUCH hash", ":1")
	p.want("SORT list", "[$1 $2 $3]")
	p.want("OBJECT IDLETIME list", ":0")
	p.want("OBJECT IDLETIME hash", ":1")
	p.want("SORT list STORE list", ":3")
	p.want("OBJECT IDLETIME hash", ":3")
	p.want("SORT none", "[]")
	p.want("OBJECT IDLETIME hash", ":3")
	p.want("SORT set STORE new LIMIT 0 0", ":0")
	p.want("OBJECT IDLETIME hash", ":4")
}

// TestKY1SortMany: very many entries, told and stored.
func TestKY1SortMany(t *testing.T) {
	limits := someLimits()
	limits.ListEntries, limits.ListBytes = 128, 64
	sp := newSpace(limits)
	const n = 100_000
	var entries, members []string
	for i := range n {
		entries = append(entries, fmt.Sprint(i*7919%n))
		members = append(members, fmt.Sprint("m", i*7919%n))
	}
	v := made(api.KindList, limits)
	v.Push(false, entries...)
	sp.Put(0, "list", v)
	w := made(api.KindSet, limits)
	w.Add(members...)
	sp.Put(0, "set", w)
	r := Do(sp, 0, split("SORT list"))
	for i, one := range r.List {
		if one.Text != fmt.Sprint(i) {
			t.Fatalf("entry %d is %s", i, one.Text)
		}
	}
	slices.Sort(members)
	slices.Reverse(members)
	if got := allTexts(Do(sp, 0, split("SORT set ALPHA DESC"))); !slices.Equal(got[1:], members) {
		t.Errorf("the set's members are told as %s", listing(got))
	}
	if got := told(Do(sp, 0, split("SORT set ALPHA DESC STORE d LIMIT 5 99990"))); got != ":99990" {
		t.Errorf("stored: %s", got)
	}
	d, _ := sp.Peek(0, "d")
	if got, _ := d.Range(0, n); !slices.Equal(got, members[5:n-5]) {
		t.Errorf("stored as %s", listing(got))
	}
}

// allTexts are all texts of a reply, its own ahead of those of its list.
func allTexts(r api.Reply) []string {
	list := []string{r.Text}
	for _, one := range r.List {
		list = append(list, allTexts(one)...)
	}
	return list
}
