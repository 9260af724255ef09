package value

import (
	"math"
	"strings"
	"testing"

	"cistern/api"
)

// TestExamples: the chapter's examples.
func TestExamples(t *testing.T) {
	s := begin(t, api.KindSet, example)
	s.do(add("3", "1"))
	s.encoded("intset")
	s.do(add("2"))
	s.encoded("intset")
	if n, err := s.v.Add("9"); n != 1 || err != api.OK || s.v.Encoding() != "hashtable" {
		t.Errorf("Add(9) = %d, error %d: %s", n, err, s.v.Encoding())
	}
	s = begin(t, api.KindSet, example)
	s.do(add("3", "1"), add("x"))
	s.encoded("listpack")
	if got := s.v.Raw(); len(got) != 1 || got[0] != packOf([]string{"1", "3", "x"}) {
		t.Errorf("Raw = %q", got)
	}
	if got, _ := s.v.Members(); strings.Join(got, " ") != "1 3 x" {
		t.Errorf("Members = %q", got)
	}
	s.do(add("long five"))
	s.encoded("hashtable")

	h := begin(t, api.KindHash, example)
	h.do(put(api.Field{Name: "b", Value: "1"}, api.Field{Name: "a", Value: "2"}))
	if n, err := h.v.Put(api.Field{Name: "b", Value: "3"}); n != 0 || err != api.OK {
		t.Errorf("Put(b) = %d, error %d", n, err)
	}
	if got := h.v.Raw(); len(got) != 1 || got[0] != packOf([]string{"b", "3", "a", "2"}) {
		t.Errorf("Raw = %q", got)
	}
	if got, _ := h.v.Fields(); len(got) != 2 || got[0] != (api.Field{Name: "a", Value: "2"}) || got[1] != (api.Field{Name: "b", Value: "3"}) {
		t.Errorf("Fields = %v", got)
	}
	h.v.Put(api.Field{Name: "c", Value: "4"})
	if got := h.v.Raw(); h.v.Encoding() != "hashtable" || strings.Join(got, " ") != "a 2 b 3 c 4" {
		t.Errorf("%s: Raw = %q", h.v.Encoding(), got)
	}

	z := begin(t, api.KindZset, example)
	z.do(zadd(api.Scored{Member: "b", Score: 1}, api.Scored{Member: "a", Score: 1}))
	if got := z.v.Raw(); len(got) != 1 || got[0] != packOf([]string{"a", "1", "b", "1"}) {
		t.Errorf("Raw = %q", got)
	}
	if n, ok, err := z.v.Rank("a", true); n != 1 || !ok || err != api.OK {
		t.Errorf("Rank(a, true) = %d, %v, error %d", n, ok, err)
	}
	if got, err := z.v.ByScore(api.Bound{Inf: -1}, api.Bound{Score: 1, Open: true}, false, 0, -1); len(got) != 0 || err != api.OK {
		t.Errorf("ByScore = %v, error %d", got, err)
	}

	x := begin(t, api.KindString, example)
	for _, e := range [][2]string{{"12", "int"}, {"012", "embstr"}, {strings.Repeat("x", 45), "raw"}} {
		x.do(setText(e[0]))
		x.encoded(e[1])
	}
	if v, err := Load(api.KindSet, "listpack", []string{packOf([]string{"a", "a"})}, example); v != nil || err != api.ErrValue {
		t.Errorf("Load of a, a: error %d", err)
	}
}

// threshold is one of the nine, with its ends.
type threshold struct {
	name   string
	field  func(th *api.Thresholds) *int
	lo, hi int
}

var thresholds = []threshold{
	{"ListEntries", func(th *api.Thresholds) *int { return &th.ListEntries }, 1, 4096},
	{"ListBytes", func(th *api.Thresholds) *int { return &th.ListBytes }, 0, 4096},
	{"SetInts", func(th *api.Thresholds) *int { return &th.SetInts }, 0, api.MaxCount},
	{"SetEntries", func(th *api.Thresholds) *int { return &th.SetEntries }, 0, 4096},
	{"SetBytes", func(th *api.Thresholds) *int { return &th.SetBytes }, 0, 4096},
	{"ZsetEntries", func(th *api.Thresholds) *int { return &th.ZsetEntries }, 0, 4096},
	{"ZsetBytes", func(th *api.Thresholds) *int { return &th.ZsetBytes }, 0, 4096},
	{"HashEntries", func(th *api.Thresholds) *int { return &th.HashEntries }, 0, 4096},
	{"HashBytes", func(th *api.Thresholds) *int { return &th.HashBytes }, 0, 4096},
}

// TestP1Thresholds: each threshold at its ends, one beyond them, and far beyond, whatever the others are.
func TestP1Thresholds(t *testing.T) {
	for _, others := range several {
		for _, e := range thresholds {
			for _, n := range []int{math.MinInt, -1, 0, 1, 2, 4095, 4096, 4097, api.MaxCount, api.MaxCount + 1, math.MaxInt} {
				th := others
				*e.field(&th) = n
				want := api.OK
				if n < e.lo || n > e.hi {
					want = api.ErrArg
				}
				checkThresholds(t, e.name, th, want)
			}
		}
	}
	checkThresholds(t, "none", api.Thresholds{}, api.ErrArg)
}

func checkThresholds(t *testing.T, what string, th api.Thresholds, want api.Errno) {
	t.Helper()
	if got := Check(th); got != want {
		t.Errorf("%s: Check(%+v) = %d, and should be %d", what, th, got, want)
	}
	for _, kind := range kinds {
		v, err := New(kind, th)
		if err != want || (v != nil) != (want == api.OK) {
			t.Errorf("%s: New(%d, %+v): error %d, and should be %d", what, kind, th, err, want)
		}
		encoding, pieces := "listpack", []string{packOf(nil)}
		if kind == api.KindString {
			encoding, pieces = "embstr", []string{""}
		} else if kind == api.KindList {
			pieces = nil
		}
		v, err = Load(kind, encoding, pieces, th)
		if err != want || (v != nil) != (want == api.OK) {
			t.Errorf("%s: Load(%d, %+v): error %d, and should be %d", what, kind, th, err, want)
		}
	}
}

// TestP1Kinds: numbers that are no kind.
func TestP1Kinds(t *testing.T) {
	for _, kind := range []int{math.MinInt, -1, api.KindNone, 6, 7, 1 << 32, 1<<32 + 1, math.MaxInt} {
		for _, th := range append(several, api.Thresholds{}) {
			if v, err := New(kind, th); v != nil || err != api.ErrArg {
				t.Errorf("New(%d): error %d", kind, err)
			}
			for _, encoding := range []string{"", "int", "listpack", "hashtable"} {
				if v, err := Load(kind, encoding, nil, th); v != nil || err != api.ErrArg {
					t.Errorf("Load(%d): error %d", kind, err)
				}
			}
		}
	}
}

// TestP1Empty: what a new value of each kind is.
func TestP1Empty(t *testing.T) {
	encodings := map[int]string{api.KindString: "embstr", api.KindList: "listpack", api.KindSet: "intset", api.KindZset: "listpack", api.KindHash: "listpack"}
	for _, th := range several {
		for _, kind := range kinds {
			r := begin(t, kind, th)
			r.encoded(encodings[kind])
			if r.v.Kind() != kind || r.v.Len() != 0 || r.v.Size() != 48 {
				t.Errorf("kind %d: %d, Len %d, Size %d", kind, r.v.Kind(), r.v.Len(), r.v.Size())
			}
			r.backAgain()
		}
	}
}

var tooLong = strings.Repeat("x", api.MaxElement+1)

// own tells whose each call is; wrong arguments are among them, as ErrKind comes ahead of all else.
func own() map[int][]call {
	none := api.Bound{}
	return map[int][]call{
		api.KindString: {wholes[3], setText("a"), setText(""), setText(tooLong)},
		api.KindList: {push(true), push(false, "a", "b"), push(true, tooLong), pop(true, 1), pop(false, -1), at(0), at(-1), setAt(0, "a"), setAt(9, tooLong),
			insert(0, "a"), insert(-1, tooLong), remove(0, 1), remove(-1, -1), between(0, 1), between(-1, -1)},
		api.KindSet: {add(), add("a", "1"), add(tooLong), drop(), drop("a"), has(""), has("a"), wholes[4]},
		api.KindHash: {put(), put(api.Field{Name: "a", Value: "1"}), put(api.Field{Name: tooLong}), put(api.Field{Value: tooLong}),
			erase(), erase("a"), field(""), field("a"), wholes[5]},
		api.KindZset: {zadd(), zadd(api.Scored{Member: "a", Score: 1}), zadd(api.Scored{Member: tooLong}), zadd(api.Scored{Score: math.MaxInt}),
			zdrop(), zdrop("a"), score("a"), rank("a", true), byRank(0, 1, false), byRank(-1, -1, true),
			byScore(none, none, false, 0, 1), byScore(none, none, true, -1, -1), byLex(api.Lex{}, api.Lex{}, false, 0, 1), byLex(api.Lex{}, api.Lex{}, true, -1, -1)},
	}
}

// grownCalls make a value of each kind expanded, with several elements.
func grownCalls(kind int) []call {
	switch kind {
	case api.KindString:
		return []call{setText(strings.Repeat("ab", 30))}
	case api.KindList:
		return []call{push(false, "1", "2", "long entry", "3", "4", "5")}
	case api.KindSet:
		return []call{add("2", "1", "c", "10", "a", "b", "3", "long member")}
	case api.KindHash:
		return []call{put(api.Field{Name: "b", Value: "1"}, api.Field{Name: "a", Value: ""}, api.Field{Name: "c", Value: "long value"}, api.Field{Name: "", Value: "7"})}
	}
	return []call{zadd(api.Scored{Member: "b", Score: 1}, api.Scored{Member: "a", Score: 1}, api.Scored{Member: "long member", Score: -3}, api.Scored{Member: "", Score: 9})}
}

// TestP2OtherKinds: all calls that are another kind's, on empty values, compact and expanded ones.
func TestP2OtherKinds(t *testing.T) {
	for _, th := range several {
		for _, kind := range kinds {
			for _, calls := range [][]call{nil, grownCalls(kind)} {
				r := begin(t, kind, th)
				r.do(calls...)
				checkOthers(r)
			}
		}
	}
}

func checkOthers(r *trial) {
	r.t.Helper()
	for kind, calls := range own() {
		if kind == r.v.Kind() {
			continue
		}
		for _, c := range calls {
			got := c.do(r.v)
			if got[len(got)-1] != api.ErrKind || !zero(got) {
				r.t.Errorf("kind %d: %s = %s", r.v.Kind(), c.name, told(got))
			}
			r.look(c.name)
		}
	}
	if _, _, err := r.v.Scan(0, 1); (err == api.ErrKind) != (r.v.Kind() == api.KindString || r.v.Kind() == api.KindList) {
		r.t.Errorf("kind %d: Scan: error %d", r.v.Kind(), err)
	}
}

// TestP2OwnKind: all own calls, right and wrong ones.
func TestP2OwnKind(t *testing.T) {
	for _, th := range several {
		for _, kind := range kinds {
			for _, calls := range [][]call{nil, grownCalls(kind)} {
				r := begin(t, kind, th)
				r.do(calls...)
				r.do(own()[kind]...)
			}
		}
	}
}

// TestP3Texts: texts at the edges of each encoding, and of what may be.
func TestP3Texts(t *testing.T) {
	digits := strings.Repeat("1", 44)
	for _, e := range []struct{ text, encoding string }{
		{"", "embstr"}, {"0", "int"}, {"-0", "embstr"}, {"+1", "embstr"}, {"-", "embstr"}, {"1 ", "embstr"}, {"00", "embstr"}, {"-1", "int"},
		{"9223372036854775807", "int"}, {"9223372036854775808", "embstr"}, {"-9223372036854775808", "int"}, {"-9223372036854775809", "embstr"},
		{digits, "embstr"}, {digits + "1", "raw"}, {strings.Repeat("\x00", 44), "embstr"}, {strings.Repeat("\xff", 45), "raw"},
		{strings.Repeat("x", api.MaxElement-1), "raw"}, {strings.Repeat("9", api.MaxElement), "raw"},
	} {
		r := begin(t, api.KindString, example)
		r.do(setText(e.text))
		r.encoded(e.encoding)
		if r.v.Len() != len(e.text) || r.v.Size() != 48+len(e.text) {
			t.Errorf("%s: Len %d, Size %d", short(e.text), r.v.Len(), r.v.Size())
		}
		r.backAgain()
		r.do(setText(tooLong))
		if got, err := r.v.Text(); got != e.text || err != api.OK {
			t.Errorf("Text = %s, error %d, and should be %s", short(got), err, short(e.text))
		}
	}
}
