package value

import (
	"math"
	"slices"
	"strings"
	"testing"

	"cistern/api"
	"cistern/intset"
	"cistern/varint"
)

// ints gives the intset of numbers, of the least width.
func ints(numbers ...int) string {
	p := intset.New()
	for _, n := range numbers {
		p, _, _ = intset.Add(p, n)
	}
	return p
}

// wideInts gives the intset of numbers of the width 8.
func wideInts(numbers ...int) string {
	p := ints(append([]int{math.MaxInt}, numbers...)...)
	p, _, _ = intset.Drop(p, math.MaxInt)
	return p
}

func pack(values ...string) string { return packOf(values) }

// encodings are all names of encodings, and some that are none.
var encodings = []string{"int", "embstr", "raw", "listpack", "quicklist", "intset", "hashtable", "skiplist", "", "Int", "ziplist", "list", "listpack "}

// ofKind tells which encodings a kind has.
var ofKind = map[int][]string{
	api.KindString: {"int", "embstr", "raw"},
	api.KindList:   {"listpack", "quicklist"},
	api.KindSet:    {"intset", "listpack", "hashtable"},
	api.KindHash:   {"listpack", "hashtable"},
	api.KindZset:   {"listpack", "skiplist"},
}

// TestLoadOthers: pieces that are sound of one encoding, with all encodings of all kinds: of another kind's encoding nothing is loaded.
func TestLoadOthers(t *testing.T) {
	pieces := [][]string{nil, {""}, {"12"}, {"a"}, {strings.Repeat("x", 45)}, {pack()}, {pack("a")}, {pack("a", "1")}, {pack("a"), pack("b")}, {ints()}, {ints(1, 2)}, {"a", "1"}, {"a", "1", "b", "2"}}
	for _, kind := range kinds {
		for _, encoding := range encodings {
			loaded := 0
			for _, p := range pieces {
				v, err := Load(kind, encoding, p, greatest)
				if err != api.OK && (err != api.ErrValue || v != nil) {
					t.Errorf("Load(%d, %s, %q): error %d", kind, encoding, p, err)
				}
				if err != api.OK {
					continue
				}
				if loaded++; v.Kind() != kind || v.Encoding() != encoding {
					t.Errorf("Load(%d, %s, %q) is %d, %s", kind, encoding, p, v.Kind(), v.Encoding())
				}
			}
			if has := slices.Contains(ofKind[kind], encoding); has != (loaded > 0) {
				t.Errorf("Load(%d, %s): %d of the pieces", kind, encoding, loaded)
			}
		}
	}
}

// TestLoadText: just one piece, in the encoding that it has.
func TestLoadText(t *testing.T) {
	longest := strings.Repeat("x", api.MaxElement)
	for _, s := range []string{"", "0", "-1", "-0", "012", "9223372036854775807", "9223372036854775808", strings.Repeat("x", 44), strings.Repeat("x", 45), longest} {
		want := made(t, api.KindString, example)
		want.SetText(s)
		for _, encoding := range encodings {
			v, err := Load(api.KindString, encoding, []string{s}, example)
			if encoding != want.Encoding() {
				if v != nil || err != api.ErrValue {
					t.Errorf("%s as %s: error %d", short(s), encoding, err)
				}
			} else if err != api.OK || !v.Equal(want) || v.Encoding() != encoding {
				t.Errorf("%s as %s: error %d", short(s), encoding, err)
			}
		}
	}
	for _, pieces := range [][]string{nil, {}, {"a", ""}, {"a", "a"}, {tooLong}} {
		for _, encoding := range encodings {
			if v, err := Load(api.KindString, encoding, pieces, example); v != nil || err != api.ErrValue {
				t.Errorf("%d pieces as %s: error %d", len(pieces), encoding, err)
			}
		}
	}
}

// unsound is pieces that are no value of an encoding.
type unsound struct {
	kind     int
	encoding string
	pieces   []string
}

// cutAnywhere gives all beginnings of a piece, and it with something behind.
func cutAnywhere(kind int, encoding, piece string) []unsound {
	var list []unsound
	for i := range len(piece) {
		list = append(list, unsound{kind, encoding, []string{piece[:i]}})
	}
	return append(list, unsound{kind, encoding, []string{piece + "\x00"}}, unsound{kind, encoding, []string{piece + "\xff"}})
}

func unsoundOnes() []unsound {
	list := []unsound{
		{api.KindList, "listpack", []string{pack()}},
		{api.KindList, "listpack", []string{pack("a", "b", "c")}},
		{api.KindList, "listpack", []string{pack("a", "ninebytes")}},
		{api.KindList, "listpack", []string{pack("a"), pack("b")}},
		{api.KindList, "quicklist", nil},
		{api.KindList, "quicklist", []string{pack("a")}},
		{api.KindList, "quicklist", []string{pack("a"), pack()}},
		{api.KindList, "quicklist", []string{pack("a"), "b"}},
		{api.KindSet, "intset", nil},
		{api.KindSet, "intset", []string{ints(1), ints(2)}},
		{api.KindSet, "intset", []string{pack("1")}},
		{api.KindSet, "listpack", nil},
		{api.KindSet, "listpack", []string{ints(1)}},
		{api.KindSet, "listpack", []string{pack("a"), pack("b")}},
		{api.KindSet, "listpack", []string{pack("a", "a")}},
		{api.KindSet, "listpack", []string{pack("1", "b", "c", "d", "1")}},
		{api.KindSet, "hashtable", []string{"a", "a"}},
		{api.KindSet, "hashtable", []string{"b", "a"}},
		{api.KindSet, "hashtable", []string{"a", "c", "b"}},
		{api.KindSet, "hashtable", []string{"9", "10"}},
		{api.KindSet, "hashtable", []string{"a", tooLong}},
		{api.KindHash, "listpack", nil},
		{api.KindHash, "listpack", []string{pack("a")}},
		{api.KindHash, "listpack", []string{pack("a", "1", "b")}},
		{api.KindHash, "listpack", []string{pack("a", "1", "a", "2")}},
		{api.KindHash, "listpack", []string{pack("a", "1", "b", "2", "c", "3", "a", "1")}},
		{api.KindHash, "listpack", []string{pack("a", "1"), pack("b", "1")}},
		{api.KindHash, "hashtable", []string{"a"}},
		{api.KindHash, "hashtable", []string{"a", "1", "b"}},
		{api.KindHash, "hashtable", []string{"a", "1", "a", "2"}},
		{api.KindHash, "hashtable", []string{"b", "1", "a", "2"}},
		{api.KindHash, "hashtable", []string{"a", "1", tooLong, "2"}},
		{api.KindHash, "hashtable", []string{"a", tooLong}},
		{api.KindZset, "listpack", nil},
		{api.KindZset, "listpack", []string{pack("a")}},
		{api.KindZset, "listpack", []string{pack("a", "1", "b")}},
		{api.KindZset, "listpack", []string{pack("a", "1"), pack("b", "1")}},
		{api.KindZset, "skiplist", []string{"a"}},
		{api.KindZset, "skiplist", []string{"a", "1", "b"}},
		{api.KindZset, "skiplist", []string{"a", "1", tooLong, "2"}},
	}
	for _, pairs := range [][]string{
		{"a", "x"}, {"a", ""}, {"a", "01"}, {"a", "-0"}, {"a", "+1"}, {"a", "1.0"}, {"a", " 1"}, {"a", "9007199254740992"}, {"a", "-9007199254740992"}, {"a", "9223372036854775808"},
		{"a", "1", "b", "x"}, {"a", "1", "a", "1"}, {"a", "1", "a", "2"}, {"b", "1", "a", "1"}, {"a", "2", "b", "1"}, {"a", "2", "b", "10", "c", "3"},
		{"a", "1", "b", "2", "c", "3", "a", "4"}, {"a", "-1", "b", "-2"}, {"10", "1", "2", "1", "1", "1"},
	} {
		list = append(list, unsound{api.KindZset, "listpack", []string{packOf(pairs)}}, unsound{api.KindZset, "skiplist", pairs})
	}
	list = append(list, cutAnywhere(api.KindList, "listpack", pack("a", "1"))...)
	list = append(list, cutAnywhere(api.KindSet, "listpack", pack("a", "1"))...)
	list = append(list, cutAnywhere(api.KindHash, "listpack", pack("a", "1"))...)
	list = append(list, cutAnywhere(api.KindZset, "listpack", pack("a", "1"))...)
	return append(list, cutAnywhere(api.KindSet, "intset", ints(1, 2, 70000))...)
}

// TestLoadUnsound: pieces that are none of the encoding, whatever the thresholds are (but for a list's nodes, which hang on them).
func TestLoadUnsound(t *testing.T) {
	for i, u := range unsoundOnes() {
		for _, th := range several {
			if u.kind == api.KindList {
				th = example
			}
			if v, err := Load(u.kind, u.encoding, u.pieces, th); v != nil || err != api.ErrValue {
				t.Errorf("%d: Load(%d, %s, %s): error %d", i, u.kind, u.encoding, shorts(u.pieces), err)
			}
		}
	}
}

// TestLoadTooMany: expanded ones of the greatest count, and of one more.
func TestLoadTooMany(t *testing.T) {
	t.Parallel()
	names := sorted(texts(api.MaxCount + 1))
	pairs := make([]string, 0, 2*len(names))
	for _, name := range names {
		pairs = append(pairs, name, "1")
	}
	for _, e := range []struct {
		kind     int
		encoding string
		pieces   []string
	}{{api.KindSet, "hashtable", names}, {api.KindHash, "hashtable", pairs}, {api.KindZset, "skiplist", pairs}} {
		t.Run(named("kind %d", e.kind), func(t *testing.T) {
			t.Parallel()
			if v, err := Load(e.kind, e.encoding, e.pieces, greatest); v != nil || err != api.ErrValue {
				t.Errorf("one too many: error %d", err)
			}
			fits := e.pieces[:len(e.pieces)/len(names)*api.MaxCount]
			v, err := Load(e.kind, e.encoding, fits, greatest)
			if err != api.OK || v.Len() != api.MaxCount || !slices.Equal(v.Raw(), fits) {
				t.Errorf("as many as may be: error %d", err)
			}
		})
	}
}

// TestLoadEncoding: what is loaded keeps its encoding if it is expanded, or if it may be one by the thresholds; else it is as if its contents had joined a new value one by one.
func TestLoadEncoding(t *testing.T) {
	for _, e := range []struct {
		kind     int
		encoding string
		pieces   []string
		want     string
		members  []string // the ones that join, if not all pieces are kept as they are
	}{
		{api.KindSet, "intset", []string{ints()}, "intset", nil},
		{api.KindSet, "intset", []string{ints(1, 2, 3, 4, 5, 6)}, "intset", nil},
		{api.KindSet, "intset", []string{wideInts(1, 2, 3)}, "intset", nil},
		{api.KindSet, "intset", []string{wideInts(1, 2, 3, 4, 5, 6)}, "intset", nil},
		{api.KindSet, "intset", []string{wideInts()}, "intset", nil},
		{api.KindSet, "intset", []string{ints(1, 2, 3, 4, 5, 6, 7)}, "listpack", []string{"1", "2", "3", "4", "5", "6", "7"}},
		{api.KindSet, "intset", []string{ints(-5, -4, 3, 4, 5, 60, 700, 8000, 90000)}, "listpack", []string{"-5", "-4", "3", "4", "5", "60", "700", "8000", "90000"}},
		{api.KindSet, "intset", []string{ints(1, 2, 3, 4, 5, 6, 900000)}, "hashtable", []string{"1", "2", "3", "4", "5", "6", "900000"}},
		{api.KindSet, "intset", []string{ints(1, 2, 3, 4, 5, 6, 7, 8, 9, 10)}, "hashtable", []string{"1", "2", "3", "4", "5", "6", "7", "8", "9", "10"}},
		{api.KindSet, "listpack", []string{pack()}, "listpack", nil},
		{api.KindSet, "listpack", []string{pack("3", "1", "2")}, "listpack", nil},
		{api.KindSet, "listpack", []string{pack("c", "1", "aaaaa", "4", "5", "6", "7", "8", "9")}, "listpack", nil},
		{api.KindSet, "listpack", []string{pack("c", "1", "aaaaa", "4", "5", "6", "7", "8", "9", "10")}, "hashtable", []string{"c", "1", "aaaaa", "4", "5", "6", "7", "8", "9", "10"}},
		{api.KindSet, "listpack", []string{pack("c", "aaaaaa", "b")}, "hashtable", []string{"c", "aaaaaa", "b"}},
		{api.KindSet, "listpack", []string{pack("7", "1000000", "5")}, "intset", []string{"7", "1000000", "5"}},
		{api.KindSet, "hashtable", nil, "hashtable", nil},
		{api.KindSet, "hashtable", []string{"1", "2"}, "hashtable", nil},
		{api.KindHash, "listpack", []string{pack()}, "listpack", nil},
		{api.KindHash, "listpack", []string{pack("b", "1234567", "7777777", "")}, "listpack", nil},
		{api.KindHash, "listpack", []string{pack("h", "", "g", "", "f", "", "e", "", "d", "", "c", "", "b", "", "a", "")}, "listpack", nil},
		{api.KindHash, "listpack", []string{pack("h", "", "g", "", "f", "", "e", "", "d", "", "c", "", "b", "", "a", "", "i", "")}, "hashtable", []string{"h", "", "g", "", "f", "", "e", "", "d", "", "c", "", "b", "", "a", "", "i", ""}},
		{api.KindHash, "listpack", []string{pack("b", "12345678", "a", "1")}, "hashtable", []string{"b", "12345678", "a", "1"}},
		{api.KindHash, "listpack", []string{pack("c", "", "88888888", "1", "a", "")}, "hashtable", []string{"c", "", "88888888", "1", "a", ""}},
		{api.KindHash, "hashtable", nil, "hashtable", nil},
		{api.KindHash, "hashtable", []string{"", "1", "a", ""}, "hashtable", nil},
		{api.KindZset, "listpack", []string{pack()}, "listpack", nil},
		{api.KindZset, "listpack", []string{pack("g", "-9007199254740991", "666666", "0", "e", "1", "d", "2", "c", "3", "b", "4", "a", "9007199254740991")}, "listpack", nil},
		{api.KindZset, "listpack", []string{pack("g", "1", "f", "2", "e", "3", "d", "4", "c", "5", "b", "6", "a", "7", "h", "8")}, "skiplist", []string{"g", "1", "f", "2", "e", "3", "d", "4", "c", "5", "b", "6", "a", "7", "h", "8"}},
		{api.KindZset, "listpack", []string{pack("b", "1", "7777777", "2", "a", "3")}, "skiplist", []string{"b", "1", "7777777", "2", "a", "3"}},
		{api.KindZset, "skiplist", nil, "skiplist", nil},
		{api.KindZset, "skiplist", []string{"b", "-1", "", "0", "a", "0"}, "skiplist", nil},
	} {
		v, err := Load(e.kind, e.encoding, e.pieces, stepThresholds)
		if err != api.OK || v.Encoding() != e.want {
			t.Errorf("Load(%d, %s, %q): error %d", e.kind, e.encoding, e.pieces, err)
			continue
		}
		if e.members == nil {
			checkKept(t, v, e.pieces)
		} else {
			checkJoined(t, v, e.members)
		}
	}
}

// checkKept: pieces that are kept as they are.
func checkKept(t *testing.T, v *Value, pieces []string) {
	t.Helper()
	if !slices.Equal(v.Raw(), pieces) {
		t.Errorf("Raw of what was loaded of %q: %q", pieces, v.Raw())
	}
}

// checkJoined: a value is as one that these elements joined one by one, its scans with it.
func checkJoined(t *testing.T, v *Value, elements []string) {
	t.Helper()
	r := &trial{t, v, newModel(v.Kind(), stepThresholds)}
	for i := 0; i < len(elements); i++ {
		switch v.Kind() {
		case api.KindSet:
			r.m.Add(elements[i])
		case api.KindHash:
			r.m.Put(api.Field{Name: elements[i], Value: elements[i+1]})
			i++
		case api.KindZset:
			n, _ := varint.Number(elements[i+1])
			r.m.ZAdd(api.Scored{Member: elements[i], Score: n})
			i++
		}
	}
	r.look("Load")
	r.backAgain()
}

// TestLoadExpanded: an expanded one has its names Set in the order of the pieces.
func TestLoadExpanded(t *testing.T) {
	names := sorted(texts(77))
	for _, kind := range groups {
		r := begin(t, kind, least)
		r.ask("New", joining(kind, names...))
		r.look("joining")
		loaded, err := Load(kind, r.v.Encoding(), r.v.Raw(), least)
		if err != api.OK {
			t.Fatalf("kind %d: error %d", kind, err)
		}
		r.v = loaded
		r.look("Load")
		for _, name := range names {
			r.do(leaving(kind, name, name))
		}
	}
}

// TestLoadList: a list's nodes are taken as they are, and go on as they would have.
func TestLoadList(t *testing.T) {
	for _, nodes := range [][]string{nil, {pack("a")}, {pack("a", "b")}, {pack("ninebytes")}, {pack("a"), pack("b")}, {pack("a"), pack("ninebytes"), pack("b", ""), pack("c")}} {
		encoding := "listpack"
		if len(nodes) > 1 {
			encoding = "quicklist"
		}
		v, err := Load(api.KindList, encoding, nodes, example)
		if err != api.OK || !slices.Equal(v.Raw(), nodes) || v.Encoding() != encoding {
			t.Errorf("Load(%q): error %d", nodes, err)
			continue
		}
		size := 48
		entries, _ := v.Range(0, 99)
		for _, s := range entries {
			size += 16 + len(s)
		}
		if v.Size() != size || v.Len() != len(entries) {
			t.Errorf("%q: Size %d, Len %d", nodes, v.Size(), v.Len())
		}
		if v.Push(true, "xy"); v.Size() != size+18 {
			t.Errorf("%q: Size %d behind a Push", nodes, v.Size())
		}
	}
}

// TestLoadGoesOn: a value that was loaded answers later calls as the one does whose Raw it was, but for scans.
func TestLoadGoesOn(t *testing.T) {
	for i, th := range several {
		for _, kind := range kinds {
			m := &mix{uint64(7000 + 10*i + kind)}
			for range 6 {
				v := made(t, kind, th)
				for range 12 {
					m.call(kind).do(v)
				}
				loaded, err := Load(kind, v.Encoding(), v.Raw(), th)
				if err != api.OK {
					t.Fatalf("error %d", err)
				}
				for range 20 {
					for _, c := range slices.Concat([]call{m.call(kind)}, wholes, shapes[:2]) {
						if x, y := told(c.do(v)), told(c.do(loaded)); x != y {
							t.Fatalf("%v: %s = %s, of the loaded one %s", th, c.name, x, y)
						}
					}
				}
			}
		}
	}
}
