package hashes

import (
	"fmt"
	"slices"
	"strings"
	"testing"

	"cistern/api"
)

// withLetters is a trial whose key h is a hash of the names a to j, with an expiry; no number by chance has been asked for.
func withLetters(t testing.TB, limits api.Thresholds) *trial {
	t.Helper()
	p := newTrial(t, limits)
	p.want("HSET h j 10 i 9 h 8 g 7 f 6 e 5 d 4 c 3 b 2 a 1", ":10")
	p.expire(0, "h", 5000)
	return p
}

// TestHA1Sample: without a number, with numbers from far below 0 to far above the hash's size, with values and without. The names that are picked were reckoned elsewhere.
func TestHA1Sample(t *testing.T) {
	for _, limits := range allLimits() {
		for _, c := range []struct{ words, want string }{
			{"h", "$e"}, {"h 0", "[]"}, {"h 1", "[$e]"}, {"h 4", "[$e $d $g $c]"}, {"h 9", "[$e $d $g $c $a $b $i $h $j]"},
			{"h 10", "[$a $b $c $d $e $f $g $h $i $j]"}, {"h 11", "[$a $b $c $d $e $f $g $h $i $j]"}, {"h 1048576", "[$a $b $c $d $e $f $g $h $i $j]"},
			{"h -1", "[$e]"}, {"h -12", "[$e $d $g $a $e $f $a $c $j $g $d $c]"},
			{"none", "_"}, {"none 0", "[]"}, {"none 5", "[]"}, {"none -5", "[]"}, {"none -1048576", "[]"}, {"none 1048576", "[]"},
			{"h 0 WITHVALUES", "[]"}, {"h 1 withvalues", "[$e $5]"}, {"h 4 WithValues", "[$e $5 $d $4 $g $7 $c $3]"}, {"h 10 WITHVALUES", "[$a $1 $b $2 $c $3 $d $4 $e $5 $f $6 $g $7 $h $8 $i $9 $j $10]"}, {"h 99 WITHVALUES", "[$a $1 $b $2 $c $3 $d $4 $e $5 $f $6 $g $7 $h $8 $i $9 $j $10]"},
			{"h -1 WITHVALUES", "[$e $5]"}, {"h -5 WITHVALUES", "[$e $5 $d $4 $g $7 $a $1 $e $5]"}, {"none -5 WITHVALUES", "[]"}, {"none 5 WITHVALUES", "[]"},
		} {
			p := withLetters(t, limits)
			p.keeps(c.want, append([]string{"HRANDFIELD"}, strings.Fields(c.words)...)...)
		}
		p := withLetters(t, limits)
		p.want("HRANDFIELD h 9", "[$e $d $g $c $a $b $i $h $j]")
		p.want("HDEL h a b c d e f g h i j", ":10")
		p.keeps("[]", "HRANDFIELD", "h", "-3")
		p.keeps("_", "HRANDFIELD", "h")
	}
}

// TestHA1SampleErrors: numbers beyond the greatest and the least that may be, words that are none; words other than WITHVALUES; both at once.
func TestHA1SampleErrors(t *testing.T) {
	for _, kind := range kinds {
		p := withHashes(t)
		p.give(0, "w", kind)
		for _, key := range []string{"h", "none", "w"} {
			for _, word := range append(noNumbers(), "1048577", "-1048577", least, greatest, "WITHVALUES") {
				p.refusesWords(noSample, "HRANDFIELD", key, word)
				p.refusesWords(noSample, "HRANDFIELD", key, word, "WITHVALUES")
				p.refusesWords(noSample, "HRANDFIELD", key, word, "BOGUS")
			}
			for _, word := range []string{"", "BOGUS", "WITHVALUE", "WITHVALUESS", "WITHSCORES", "NOVALUES", " WITHVALUES", "1"} {
				for _, n := range []string{"0", "1", "-1", "1048576", "-1048576"} {
					p.refusesWords(syntax, "HRANDFIELD", key, n, word)
				}
			}
			p.refusesWords(unknown, "HRANDFIELD", key, "1", "WITHVALUES", "WITHVALUES")
		}
	}
}

// TestHA1SampleMost: as many names as may be asked for.
func TestHA1SampleMost(t *testing.T) {
	sp := newSpace(someLimits())
	Do(sp, 0, split("HSET h a x b y c z"))
	for _, n := range []int{-api.MaxCount, -api.MaxCount + 1} {
		by := sp.Clone()
		r := Do(sp, 0, []string{"HRANDFIELD", "h", fmt.Sprint(n)})
		if r.Kind != api.ReplyArray || len(r.List) != -n {
			t.Fatalf("HRANDFIELD h %d: kind %d, %d names", n, r.Kind, len(r.List))
		}
		for i, one := range r.List {
			if want := "abc"[by.Random(3):][:1]; one.Text != want || one.Kind != api.ReplyBulk {
				t.Fatalf("HRANDFIELD h %d: %s at the place %d; want %s", n, told(one), i, want)
			}
		}
	}
	by := sp.Clone()
	r := Do(sp, 0, []string{"HRANDFIELD", "h", fmt.Sprint(-api.MaxCount), "WITHVALUES"})
	if r.Kind != api.ReplyArray || len(r.List) != 2*api.MaxCount {
		t.Fatalf("HRANDFIELD h with values: kind %d, %d texts", r.Kind, len(r.List))
	}
	for i := range api.MaxCount {
		at := by.Random(3)
		if name, text := r.List[2*i].Text, r.List[2*i+1].Text; name != "abc"[at:at+1] || text != "xyz"[at:at+1] {
			t.Fatalf("the field %d is %s %s", i, name, text)
		}
	}
	if r := Do(sp, 0, []string{"HRANDFIELD", "h", fmt.Sprint(api.MaxCount)}); told(r) != "[$a $b $c]" {
		t.Errorf("HRANDFIELD h %d: %s", api.MaxCount, told(r))
	}
}

// TestChance: the names that are picked are those that keyspace.Random tells of a space that is as this one, picked one by one, in their order; hashes of all sizes, numbers of all sizes.
func TestChance(t *testing.T) {
	t.Parallel()
	m := mix(31)
	for range 400 {
		sp := newSpace(pick(&m, allLimits()...))
		size := 1 + m.below(pick(&m, 3, 10, 40, 300))
		Do(sp, 0, numbered("HSET", "h", pick(&m, "", "m"), m.below(50), size))
		v, _ := sp.Peek(0, "h")
		fields, _ := v.Fields()
		for range 5 {
			n := m.below(2*size+4) - size/2 - 1
			by, left, want := sp.Clone(), slices.Clone(fields), []api.Field{}
			switch {
			case n < 0:
				for range -n {
					want = append(want, fields[by.Random(size)])
				}
			case n >= size:
				want = fields
			}
			for 0 <= n && n < size && len(want) < n {
				i := by.Random(len(left))
				want = append(want, left[i])
				left = slices.Delete(left, i, i+1)
			}
			words, texts := []string{"HRANDFIELD", "h", fmt.Sprint(n)}, []string{}
			with := m.below(2) == 0
			if with {
				words = append(words, "WITHVALUES")
			}
			for _, f := range want {
				texts = append(texts, f.Name)
				if with {
					texts = append(texts, f.Value)
				}
			}
			got := Do(sp, 0, words)
			if !same(got, bulks(api.ReplyArray, texts)) {
				t.Fatalf("%q of %v: %s; want %q", words, fields, told(got), texts)
			}
			if a, b := sp.Clone().Random(1<<30), by.Clone().Random(1<<30); a != b {
				t.Fatalf("%q of %d: not as many numbers by chance as picks", words, size)
			}
			if now, _ := v.Fields(); !slices.Equal(now, fields) {
				t.Fatalf("%q: %v has become %v", words, fields, now)
			}
			one := fields[by.Random(size)].Name
			if got := Do(sp, 0, []string{"HRANDFIELD", "h"}); !same(got, bulk(one)) {
				t.Fatalf("HRANDFIELD h: %s; want %s", told(got), one)
			}
		}
	}
}

// TestSampleDifferent: of fewer than there are no name comes twice, and each may come, with its own value.
func TestSampleDifferent(t *testing.T) {
	sp := newSpace(someLimits())
	Do(sp, 0, numbered("HSET", "h", "m", 0, 50))
	met := map[string]int{}
	for range 200 {
		r := Do(sp, 0, []string{"HRANDFIELD", "h", "20", "WITHVALUES"})
		list := texts(r)[1:]
		if len(list) != 40 {
			t.Fatalf("HRANDFIELD h 20 WITHVALUES: %s", told(r))
		}
		now := map[string]int{}
		for i := 0; i < len(list); i += 2 {
			now[list[i]]++
			met[list[i]]++
			if list[i+1] != "v"+list[i][1:] {
				t.Fatalf("%s has the value %s", list[i], list[i+1])
			}
		}
		if len(now) != 20 {
			t.Fatalf("HRANDFIELD h 20 WITHVALUES: %s", told(r))
		}
	}
	if len(met) != 50 {
		t.Errorf("only %d of 50 names were ever told", len(met))
	}
}

// TestSampleMemory: a long name and value that come again and again take the memory of one.
func TestSampleMemory(t *testing.T) {
	sp := newSpace(someLimits())
	Do(sp, 0, []string{"HSET", "h", strings.Repeat("n", api.MaxElement), strings.Repeat("v", api.MaxElement)})
	r := Do(sp, 0, split("HRANDFIELD h -1000 WITHVALUES"))
	for i, one := range r.List {
		if !shared(one.Text, r.List[i%2].Text) {
			t.Fatal("each of the same fields has a memory of its own")
		}
	}
}
