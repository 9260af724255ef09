package value

import (
	"math"
	"slices"
	"strings"
	"testing"

	"cistern/api"
	"cistern/intset"
	"cistern/varint"
)

// fieldsNamed gives fields of these names, all of one value.
func fieldsNamed(value string, names ...string) []api.Field {
	list := []api.Field{}
	for _, name := range names {
		list = append(list, api.Field{Name: name, Value: value})
	}
	return list
}

// scoredNamed gives members of these names, all of one score.
func scoredNamed(score int, names ...string) []api.Scored {
	list := []api.Scored{}
	for _, name := range names {
		list = append(list, api.Scored{Member: name, Score: score})
	}
	return list
}

// joining gives the call by which names join a value of a kind.
func joining(kind int, names ...string) call {
	switch kind {
	case api.KindHash:
		return put(fieldsNamed("v", names...)...)
	case api.KindZset:
		return zadd(scoredNamed(1, names...)...)
	}
	return add(names...)
}

// leaving gives the call by which they go.
func leaving(kind int, names ...string) call {
	switch kind {
	case api.KindHash:
		return erase(names...)
	case api.KindZset:
		return zdrop(names...)
	}
	return drop(names...)
}

// asking gives the calls that ask for a name.
func asking(kind int, name string) []call {
	switch kind {
	case api.KindHash:
		return []call{field(name)}
	case api.KindZset:
		return []call{score(name), rank(name, false), rank(name, true)}
	}
	return []call{has(name)}
}

var groups = []int{api.KindSet, api.KindHash, api.KindZset}

// TestNamesTwice: names that one call names twice, new ones and old ones, in each encoding; names that are not there; none.
func TestNamesTwice(t *testing.T) {
	for _, th := range several {
		for _, kind := range groups {
			r := begin(t, kind, th)
			r.do(joining(kind), leaving(kind), leaving(kind, "a", "a"))
			for _, names := range [][]string{{"1", "1"}, {"2", "1", "2", "1", "3"}, {"a", "a", "1"}, {"a", "b", "a", "b"}, {"long name", "long name", "a", "c", "c"}} {
				r.do(joining(kind, names...), joining(kind, names...))
				for _, name := range append(names, "", "-1", "-0", "01", "absent", tooLong) {
					r.do(asking(kind, name)...)
				}
				r.do(leaving(kind, names[0], "absent", names[0]), leaving(kind, names[0]), joining(kind, names[0]))
			}
			r.do(leaving(kind, "1", "2", "3", "a", "b", "c", "long name", "1", tooLong))
			r.do(joining(kind, "1"), joining(kind, "a"))
			r.backAgain()
		}
	}
}

// TestElementEdges: elements of no byte, of MaxElement bytes and of one more; a call that is refused changes nothing, whatever it names beside.
func TestElementEdges(t *testing.T) {
	longest := strings.Repeat("y", api.MaxElement)
	for _, th := range []api.Thresholds{least, example, greatest} {
		for _, kind := range groups {
			r := begin(t, kind, th)
			r.do(joining(kind, tooLong), joining(kind, "a", tooLong), joining(kind, tooLong, "a"))
			r.do(joining(kind, ""), joining(kind, "b", tooLong, "c"), joining(kind, "a", longest), joining(kind, longest), joining(kind, "d", tooLong))
			r.do(leaving(kind, tooLong, longest), leaving(kind, ""))
			r.backAgain()
		}
		r := begin(t, api.KindHash, th)
		r.do(put(api.Field{Name: "a", Value: tooLong}), put(api.Field{Name: "a", Value: ""}), put(api.Field{Name: "b"}, api.Field{Name: "a", Value: tooLong}),
			put(api.Field{Name: "a", Value: longest}, api.Field{Name: longest, Value: longest}), put(api.Field{Name: "a", Value: tooLong}), field(longest), field("a"))
		r.backAgain()
	}
}

// stepThresholds has bounds that all differ.
var stepThresholds = api.Thresholds{ListEntries: 1, SetInts: 6, SetEntries: 9, SetBytes: 5, ZsetEntries: 7, ZsetBytes: 6, HashEntries: 8, HashBytes: 7}

// TestStepCount: from the compact encoding to the next one at just the threshold and one above it, by calls of one name each and by one call of all, and never back.
func TestStepCount(t *testing.T) {
	for _, e := range []struct {
		kind, most    int
		before, after string
		prefix        string
	}{
		{api.KindSet, 6, "intset", "listpack", ""},
		{api.KindSet, 9, "listpack", "hashtable", "m"},
		{api.KindHash, 8, "listpack", "hashtable", "m"},
		{api.KindZset, 7, "listpack", "skiplist", "m"},
	} {
		var names []string
		for i := range e.most {
			names = append(names, e.prefix+varint.Digits(i*7%5*10+9-i))
		}
		one, atOnce := begin(t, e.kind, stepThresholds), begin(t, e.kind, stepThresholds)
		for _, name := range names {
			one.do(joining(e.kind, name))
			one.encoded(e.before)
		}
		atOnce.do(joining(e.kind, names...))
		atOnce.encoded(e.before)
		one.do(joining(e.kind, names[0]), joining(e.kind, names...))
		one.encoded(e.before)
		next := e.prefix + "77"
		one.do(joining(e.kind, next))
		one.encoded(e.after)
		atOnce.do(joining(e.kind, append(names, next)...))
		atOnce.encoded(e.after)
		for _, name := range append(names, next) {
			one.do(leaving(e.kind, name))
			one.encoded(e.after)
		}
		one.backAgain()
		one.do(joining(e.kind, "1"))
		one.encoded(e.after)
	}
}

// TestStepBytes: the same by the length of what joins.
func TestStepBytes(t *testing.T) {
	for _, e := range []struct {
		kind, most int
		after      string
	}{
		{api.KindSet, 5, "hashtable"},
		{api.KindHash, 7, "hashtable"},
		{api.KindZset, 6, "skiplist"},
	} {
		fits, tooWide := strings.Repeat("w", e.most), strings.Repeat("w", e.most+1)
		r := begin(t, e.kind, stepThresholds)
		r.do(joining(e.kind, fits), joining(e.kind, "a"), joining(e.kind, fits))
		r.encoded("listpack")
		r.do(joining(e.kind, "c", tooWide, "b"))
		r.encoded(e.after)
		r.do(leaving(e.kind, tooWide, "a", fits))
		r.encoded(e.after)
		r = begin(t, e.kind, stepThresholds)
		r.do(joining(e.kind, tooWide))
		r.encoded(e.after)
	}
}

// TestStepIntset: how an intset goes on when a member comes for which it has no room, by what it has.
func TestStepIntset(t *testing.T) {
	for _, e := range []struct {
		first, then []string
		encoding    string
	}{
		{[]string{"3", "-2", "1"}, []string{"x"}, "listpack"},
		{[]string{"3", "-2", "1"}, []string{"x", "0", "-9"}, "listpack"},
		{[]string{"3", "12345", "1"}, []string{"x"}, "listpack"},
		{[]string{"3", "123456", "1"}, []string{"x"}, "hashtable"},
		{[]string{"3", "-12345", "1"}, []string{"x"}, "hashtable"},
		{[]string{"3", "123456", "1"}, []string{"2", "4", "5"}, "intset"},
		{[]string{"3", "123456", "1"}, []string{"2", "4", "5", "6"}, "hashtable"},
		{[]string{"3", "2", "1"}, []string{"123456", "4", "5"}, "intset"},
		{[]string{"3", "2", "1", "4", "5", "6"}, []string{"7"}, "listpack"},
		{[]string{"3", "2", "1", "4", "5", "6"}, []string{"7", "x", "8"}, "listpack"},
		{[]string{"3", "2", "1", "4", "5", "6"}, []string{"7", "x", "8", "9"}, "hashtable"},
		{[]string{"3", "2", "1", "4", "5", "6"}, []string{"123456"}, "hashtable"},
		{[]string{"3", "2", "1"}, []string{"wwwww"}, "listpack"},
		{[]string{"3", "2", "1"}, []string{"wwwwww"}, "hashtable"},
		{nil, []string{"x"}, "listpack"},
		{nil, []string{"wwwwww"}, "hashtable"},
		{[]string{"9223372036854775807", "-9223372036854775808"}, []string{"40000"}, "intset"},
		{[]string{"9223372036854775807", "-9223372036854775808"}, []string{"9223372036854775808"}, "hashtable"},
	} {
		r := begin(t, api.KindSet, stepThresholds)
		r.do(add(e.first...))
		r.encoded("intset")
		r.do(add(e.then...))
		r.encoded(e.encoding)
		r.backAgain()
		r.do(drop("x", "3"), drop("wwwww", "wwwwww", "1"))
		r.encoded(e.encoding)
	}
}

// TestIntsetWidth: an intset is as wide as was ever needed, and stays so.
func TestIntsetWidth(t *testing.T) {
	wide := []string{"5", "32767", "-32768", "32768", "-32769", "2147483647", "-2147483648", "2147483648", "-2147483649"}
	for _, first := range wide {
		for _, second := range wide {
			r := begin(t, api.KindSet, greatest)
			r.do(add(first), add(second), drop(first), add("1", second, first), drop(second, first, "1"), add("7"))
			r.encoded("intset")
			r.backAgain()
		}
	}
	r := begin(t, api.KindSet, greatest)
	r.do(add("9", "-70000", "8"), drop("-70000"), drop("x"), drop(), add("1", "2", "3", "9"), add("5000000000"), drop("1", "5000000000", "-1", "1", "01"))
	if got := r.v.Raw()[0][0]; got != 8 {
		t.Errorf("the width is %d", got)
	}
}

// TestHashValues: a field that is given another value keeps its place; one that is long turns the hash, be it new or not.
func TestHashValues(t *testing.T) {
	r := begin(t, api.KindHash, stepThresholds)
	r.do(put(fieldsNamed("1", "c", "a", "b")...), put(api.Field{Name: "a", Value: "1234567"}), put(api.Field{Name: "c", Value: ""}, api.Field{Name: "c", Value: "2"}),
		put(api.Field{Name: "b", Value: "x"}, api.Field{Name: "d", Value: "y"}, api.Field{Name: "b", Value: "z"}))
	r.encoded("listpack")
	if got := r.v.Raw()[0]; got != packOf([]string{"c", "2", "a", "1234567", "b", "z", "d", "y"}) {
		t.Errorf("Raw = %q", got)
	}
	r.do(put(api.Field{Name: "a", Value: "12345678"}))
	r.encoded("hashtable")
	r.do(put(api.Field{Name: "a", Value: ""}), put(api.Field{Name: "", Value: "12345678"}), erase("a", "b"), put(api.Field{Name: "a"}))
	r.backAgain()
	r = begin(t, api.KindHash, stepThresholds)
	r.do(put(api.Field{Name: "a", Value: "1"}, api.Field{Name: "a", Value: "12345678"}, api.Field{Name: "b", Value: "2"}))
	r.encoded("hashtable")
}

// TestScores: scores at both ends and beyond, and that a score that can't be counts behind a member that is too long.
func TestScores(t *testing.T) {
	const most = 1<<53 - 1
	for _, th := range several {
		r := begin(t, api.KindZset, th)
		r.do(zadd(scoredNamed(most+1, "a")...), zadd(scoredNamed(-most-1, "a")...), zadd(scoredNamed(math.MinInt, "a")...), zadd(scoredNamed(math.MaxInt, "a")...))
		r.do(zadd(scoredNamed(most, "b")...), zadd(scoredNamed(-most, "a")...), zadd(scoredNamed(0, "c")...))
		r.do(zadd(api.Scored{Member: "d", Score: 1}, api.Scored{Member: "e", Score: most + 1}, api.Scored{Member: "f", Score: 1}))
		r.do(zadd(api.Scored{Member: "b", Score: -most}, api.Scored{Member: "a", Score: most}, api.Scored{Member: "b", Score: 4}))
		if _, err := r.v.ZAdd(api.Scored{Member: "e", Score: most + 1}, api.Scored{Member: tooLong, Score: 1}); err != api.ErrLong {
			t.Errorf("too long, and a score that can't be: error %d", err)
		}
		r.look("ZAdd")
		r.do(zadd(scoredNamed(4, "", "longer member", "z", "c")...), zadd(scoredNamed(-1, "z", "b")...))
		for _, m := range []string{"a", "b", "c", "d", "", "z", "longer member"} {
			r.ask("ZAdd", score(m), rank(m, false), rank(m, true))
		}
		r.backAgain()
	}
}

// ends of ranges: of each kind, open and not.
func scoreEnds() []api.Bound {
	var list []api.Bound
	for _, open := range []bool{false, true} {
		for _, score := range []int{math.MinInt, -3, -2, 0, 1, 2, 5, math.MaxInt} {
			list = append(list, api.Bound{Score: score, Open: open})
		}
		list = append(list, api.Bound{Inf: -1, Open: open}, api.Bound{Inf: 1, Open: open}, api.Bound{Score: 1, Inf: math.MinInt, Open: open}, api.Bound{Score: 1, Inf: math.MaxInt, Open: open})
	}
	return list
}

func memberEnds() []api.Lex {
	var list []api.Lex
	for _, open := range []bool{false, true} {
		for _, text := range []string{"", "a", "aa", "b", "c", "zz", "\xff\xff"} {
			list = append(list, api.Lex{Text: text, Open: open})
		}
		list = append(list, api.Lex{Inf: -1, Open: open}, api.Lex{Inf: 1, Open: open}, api.Lex{Text: "b", Inf: math.MinInt, Open: open}, api.Lex{Text: "b", Inf: math.MaxInt, Open: open})
	}
	return list
}

// rangeTrials are sorted sets, empty ones and with several members of one score, compact and expanded.
func rangeTrials(t *testing.T) []*trial {
	var list []*trial
	for _, th := range []api.Thresholds{least, greatest} {
		empty, full := begin(t, api.KindZset, th), begin(t, api.KindZset, th)
		full.do(zadd(api.Scored{Member: "c", Score: 1}, api.Scored{Member: "a", Score: 2}, api.Scored{Member: "b", Score: 1}, api.Scored{Member: "", Score: -2},
			api.Scored{Member: "aa", Score: 5}, api.Scored{Member: "z", Score: 1}, api.Scored{Member: "\xff", Score: 0}))
		list = append(list, empty, full)
	}
	return list
}

// TestP8Ranges: ByScore and ByLex both ways with all bounds, and with skip and most below 0, 0, some, more than there are.
func TestP8Ranges(t *testing.T) {
	for _, r := range rangeTrials(t) {
		for _, back := range []bool{false, true} {
			for _, skip := range []int{math.MinInt, -1, 0, 1, 3, 7, math.MaxInt} {
				for _, most := range []int{math.MinInt, -1, 0, 1, 2, 6, 7, 8, math.MaxInt} {
					for _, lo := range scoreEnds() {
						for _, hi := range scoreEnds() {
							if full := skip == 0 && most == -1; full || lo.Inf < 0 || hi.Inf > 0 && !hi.Open {
								r.ask("ranges", byScore(lo, hi, back, skip, most))
							}
						}
					}
					for _, lo := range memberEnds() {
						for _, hi := range memberEnds() {
							if full := skip == 0 && most == -1; full || lo.Inf < 0 || hi.Inf > 0 && !hi.Open {
								r.ask("ranges", byLex(lo, hi, back, skip, most))
							}
						}
					}
				}
			}
		}
		r.look("ranges")
	}
}

// TestP8Ranks: ByRank both ways from each place.
func TestP8Ranks(t *testing.T) {
	for _, r := range rangeTrials(t) {
		for _, i := range numbersAround(7) {
			for _, n := range numbersAround(7) {
				r.ask("ranks", byRank(i, n, false), byRank(i, n, true))
			}
		}
		for rank := range 7 {
			if r.v.Len() == 0 {
				break
			}
			got, _ := r.v.ByRank(rank, 1, true)
			if n, ok, err := r.v.Rank(got[0].Member, true); n != rank || !ok || err != api.OK {
				t.Errorf("Rank of what ByRank tells at %d: %d", rank, n)
			}
		}
		r.look("ranks")
	}
}

// TestP10Scan: an expanded one is scanned by the dict's cursors, also while a move goes on; a compact one tells all, whatever the cursor is.
func TestP10Scan(t *testing.T) {
	for _, kind := range groups {
		for _, th := range several {
			r := begin(t, kind, th)
			for i := range 40 {
				r.ask("joining", joining(kind, "n"+varint.Digits(i), varint.Digits(i/2)))
				for cursor := range 35 {
					r.ask("joining", scan(cursor, cursor%5))
				}
			}
			for i := range 40 {
				r.ask("leaving", leaving(kind, "n"+varint.Digits(i), "absent"))
				for cursor := range 35 {
					r.ask("leaving", scan(cursor, cursor%5))
				}
			}
			r.look("leaving")
		}
	}
}

// TestScanAll: a scan from 0 to 0 tells all of an expanded one.
func TestScanAll(t *testing.T) {
	for _, kind := range groups {
		v := made(t, kind, least)
		names := texts(500)
		joining(kind, names...).do(v)
		var got []string
		cursor := 0
		for {
			part, next, err := v.Scan(cursor, 10)
			if err != api.OK {
				t.Fatalf("error %d", err)
			}
			got = append(got, part...)
			if cursor = next; cursor == 0 {
				break
			}
		}
		slices.Sort(got)
		if !slices.Equal(slices.Compact(got), sorted(names)) {
			t.Errorf("kind %d: %d names", kind, len(got))
		}
	}
}

// fullGroup gives a value of the names 0, 1 and so on, n of them, as calls with the least thresholds would make it, or an intset.
func fullGroup(t *testing.T, kind, n int, th api.Thresholds) *Value {
	t.Helper()
	v := made(t, kind, th)
	if got := joining(kind, texts(n)...).do(v); told(got) != told(all(n, api.OK)) {
		t.Fatalf("kind %d: %d names join: %s", kind, n, told(got))
	}
	return v
}

// TestFull: values of the greatest count, and just below it: what is there may be named again, as often as one likes; what is new may not join, if there would be too many.
func TestFull(t *testing.T) {
	for _, e := range []struct {
		kind int
		th   api.Thresholds
	}{{api.KindSet, least}, {api.KindSet, greatest}, {api.KindHash, greatest}, {api.KindZset, greatest}} {
		t.Run(named("kind %d", e.kind), func(t *testing.T) {
			t.Parallel()
			checkFull(t, fullGroup(t, e.kind, api.MaxCount-1, e.th))
		})
	}
}

// checkFull asks a value that has one name less than may be.
func checkFull(t *testing.T, v *Value) {
	kind, size := v.Kind(), v.Size()
	expect := func(c call, count, size int, want ...any) {
		t.Helper()
		got := c.do(v)
		if told(got) != told(want) || v.Len() != count || v.Size() != size {
			t.Errorf("%s = %s, Len %d, Size %d, and should be %s, %d, %d", c.name, told(got), v.Len(), v.Size(), told(want), count, size)
		}
	}
	expect(joining(kind, "a", "b"), api.MaxCount-1, size, 0, api.ErrLong)
	expect(joining(kind, texts(api.MaxCount+1)...), api.MaxCount-1, size, 0, api.ErrLong)
	expect(joining(kind, "0", "1", "0", "2"), api.MaxCount-1, size, 0, api.OK)
	last := varint.Digits(api.MaxCount)
	more := map[int]int{api.KindSet: 16, api.KindHash: 32 + 1, api.KindZset: 24}[kind] + len(last)
	expect(joining(kind, last, "0", last), api.MaxCount, size+more, 1, api.OK)
	expect(joining(kind, "0", last), api.MaxCount, size+more, 0, api.OK)
	expect(joining(kind, "0", last, "a"), api.MaxCount, size+more, 0, api.ErrLong)
	expect(joining(kind, append(texts(api.MaxCount-1), "1048575")...), api.MaxCount, size+more, 0, api.ErrLong)
	expect(leaving(kind, last, "a"), api.MaxCount-1, size, 1, api.OK)
}

// TestFullAtOnce: so many names in one call that there would be too many, if those that are there already, or stand twice, were counted too.
func TestFullAtOnce(t *testing.T) {
	for _, kind := range groups {
		t.Run(named("kind %d", kind), func(t *testing.T) {
			t.Parallel()
			checkAtOnce(t, kind, "3", "x")
			if kind == api.KindSet {
				checkAtOnce(t, kind, "3", "-5")
			}
		})
	}
}

// checkAtOnce lets the most names that may be join a compact value of two, one of which is no name of texts.
func checkAtOnce(t *testing.T, kind int, first, second string) {
	t.Helper()
	v := made(t, kind, greatest)
	expect := func(count int, names []string, want ...any) {
		t.Helper()
		if got := joining(kind, names...).do(v); told(got) != told(want) || v.Len() != count {
			t.Errorf("kind %d: %d names: %s, Len %d, and should be %s, %d", kind, len(names), told(got), v.Len(), told(want), count)
		}
	}
	expect(2, []string{first, second}, 2, api.OK)
	names := texts(api.MaxCount)
	expect(2, names, 0, api.ErrLong)
	expect(2, slices.Repeat([]string{second, first}, api.MaxCount/2), 0, api.OK)
	names[0] = second
	expect(api.MaxCount, append(names, "1", "2", second), api.MaxCount-2, api.OK)
}

// TestFullScore: too many comes ahead of a score that can't be.
func TestFullScore(t *testing.T) {
	t.Parallel()
	v := fullGroup(t, api.KindZset, api.MaxCount, least)
	if n, err := v.ZAdd(api.Scored{Member: "a", Score: math.MaxInt}); n != 0 || err != api.ErrLong {
		t.Errorf("ZAdd = %d, error %d", n, err)
	}
	if n, err := v.ZAdd(api.Scored{Member: "0", Score: math.MaxInt}); n != 0 || err != api.ErrNumber {
		t.Errorf("ZAdd = %d, error %d", n, err)
	}
	if n, err := v.ZDrop("0", "0", "1"); n != 2 || err != api.OK {
		t.Errorf("ZDrop = %d, error %d", n, err)
	}
}

// TestFullIntset: an intset of the greatest count is as layer 5 has it.
func TestFullIntset(t *testing.T) {
	t.Parallel()
	v := fullGroup(t, api.KindSet, api.MaxCount, greatest)
	raw := v.Raw()
	if n, err := intset.Len(raw[0]); v.Encoding() != "intset" || n != api.MaxCount || err != api.OK || raw[0][0] != 4 {
		t.Errorf("%s of %d numbers, error %d", v.Encoding(), n, err)
	}
	if n, err := v.Drop(texts(api.MaxCount - 2)...); n != api.MaxCount-2 || err != api.OK {
		t.Errorf("Drop = %d, error %d", n, err)
	}
	if got, _ := v.Members(); strings.Join(got, " ") != "1048574 1048575" || v.Size() != 48+2*23 {
		t.Errorf("Members = %q, Size %d", got, v.Size())
	}
}

// TestGreatestPacks: compact ones at the greatest thresholds, with as many elements of as many bytes as these allow.
func TestGreatestPacks(t *testing.T) {
	t.Parallel()
	var names []string
	for i := range 4096 {
		digits := varint.Digits(i)
		names = append(names, digits+strings.Repeat("n", 4096-len(digits)))
	}
	for _, kind := range groups {
		v := made(t, kind, greatest)
		if got := joining(kind, names...).do(v); told(got) != told(all(4096, api.OK)) || v.Encoding() != "listpack" {
			t.Errorf("kind %d: %s: %s", kind, told(got), v.Encoding())
		}
		if n := len(v.Raw()[0]); n < 4096*4096 || n > 1<<26 {
			t.Errorf("kind %d: a listpack of %d bytes", kind, n)
		}
		twin := v.Clone()
		if joining(kind, "a").do(v); v.Encoding() == "listpack" || v.Len() != 4097 || twin.Len() != 4096 || twin.Equal(v) {
			t.Errorf("kind %d: one more: %s of %d", kind, v.Encoding(), v.Len())
		}
		if leaving(kind, "a").do(v); !twin.Equal(v) {
			t.Errorf("kind %d: one less, and not Equal", kind)
		}
	}
}
