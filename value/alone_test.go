package value

import (
	"slices"
	"strings"
	"sync"
	"testing"
	"unsafe"

	"cistern/api"
)

// samples are values of each kind in each encoding, empty ones and others.
func samples(t testing.TB) []*Value {
	var list []*Value
	for _, th := range []api.Thresholds{least, example, greatest} {
		for _, kind := range kinds {
			empty, full := made(t, kind, th), made(t, kind, th)
			for _, c := range grownCalls(kind) {
				c.do(full)
			}
			list = append(list, empty, full)
		}
		short, numbers := made(t, api.KindString, th), made(t, api.KindSet, th)
		short.SetText("12")
		numbers.Add("4", "1", "2")
		list = append(list, short, numbers)
	}
	return list
}

// TestEqual: values are Equal, if they are of one kind and hold the same, whatever they are kept in.
func TestEqual(t *testing.T) {
	hold := func(v *Value) string {
		var out []string
		for _, c := range wholes {
			out = append(out, told(c.do(v)))
		}
		return strings.Join(out, "; ")
	}
	list := samples(t)
	for _, a := range list {
		if a.Equal(nil) {
			t.Errorf("%q is Equal to nil", a.Raw())
		}
		for _, b := range list {
			if want := hold(a) == hold(b); a.Equal(b) != want {
				t.Errorf("%s %q and %s %q: Equal is %v", a.Encoding(), a.Raw(), b.Encoding(), b.Raw(), !want)
			}
		}
	}
}

// TestUnequal: values that differ a little, in as many elements of as many bytes.
func TestUnequal(t *testing.T) {
	pairs := []struct {
		kind int
		a, b []call
	}{
		{api.KindString, []call{setText("ab")}, []call{setText("ba")}},
		{api.KindList, []call{push(false, "a", "b", "c")}, []call{push(false, "a", "c", "b")}},
		{api.KindList, []call{push(false, "ab", "c")}, []call{push(false, "a", "bc")}},
		{api.KindSet, []call{add("1", "2")}, []call{add("1", "3")}},
		{api.KindSet, []call{add("1", "x")}, []call{add("1", "y")}},
		{api.KindHash, []call{put(fieldsNamed("1", "a", "b")...)}, []call{put(fieldsNamed("1", "a", "c")...)}},
		{api.KindHash, []call{put(fieldsNamed("1", "a", "b")...)}, []call{put(fieldsNamed("2", "a", "b")...)}},
		{api.KindHash, []call{put(api.Field{Name: "a", Value: "1"}, api.Field{Name: "b", Value: "2"})}, []call{put(api.Field{Name: "a", Value: "2"}, api.Field{Name: "b", Value: "1"})}},
		{api.KindZset, []call{zadd(scoredNamed(1, "a", "b")...)}, []call{zadd(scoredNamed(1, "a", "c")...)}},
		{api.KindZset, []call{zadd(scoredNamed(1, "a", "b")...)}, []call{zadd(scoredNamed(2, "a", "b")...)}},
		{api.KindZset, []call{zadd(api.Scored{Member: "a", Score: 1}, api.Scored{Member: "b", Score: 2})}, []call{zadd(api.Scored{Member: "b", Score: 1}, api.Scored{Member: "a", Score: 2})}},
	}
	for i, p := range pairs {
		for _, x := range []api.Thresholds{least, greatest} {
			for _, y := range []api.Thresholds{least, greatest} {
				a, b, c := made(t, p.kind, x), made(t, p.kind, y), made(t, p.kind, y)
				for _, asked := range p.a {
					asked.do(a)
					asked.do(c)
				}
				for _, asked := range p.b {
					asked.do(b)
				}
				if a.Equal(b) || b.Equal(a) || !a.Equal(c) || !c.Equal(a) || !a.Equal(a) {
					t.Errorf("%d: %q and %q", i, a.Raw(), b.Raw())
				}
			}
		}
	}
	other := made(t, api.KindHash, example)
	if v := made(t, api.KindSet, example); v.Equal(other) || other.Equal(v) {
		t.Error("an empty set and an empty hash are Equal")
	}
}

// TestEqualLong: lists that differ at any place, so that no part of them is passed over.
func TestEqualLong(t *testing.T) {
	list := texts(2100)
	a := made(t, api.KindList, example)
	a.Push(false, list...)
	for _, i := range []int{0, 1, 1023, 1024, 1025, 2047, 2048, 2098, 2099} {
		b := a.Clone()
		old, _ := b.At(i)
		b.SetAt(i, strings.Repeat("x", len(old)))
		if a.Equal(b) || b.Equal(a) {
			t.Errorf("Equal, though entry %d is another one", i)
		}
		if b.SetAt(i, old); !a.Equal(b) {
			t.Errorf("not Equal, though entry %d is the same again", i)
		}
	}
}

// TestCloneAlone: what is done with one of the two is not seen by the other.
func TestCloneAlone(t *testing.T) {
	look := func(v *Value) string {
		var out []string
		for _, c := range slices.Concat(wholes, shapes) {
			out = append(out, told(c.do(v)))
		}
		return strings.Join(out, "; ")
	}
	m := &mix{5}
	for _, v := range samples(t) {
		for range 20 {
			twin := v.Clone()
			if look(v) != look(twin) || !v.Equal(twin) || !twin.Equal(v) {
				t.Fatalf("%q: the clone is %q", v.Raw(), twin.Raw())
			}
			before := look(v)
			calls := []call{m.call(v.Kind()), m.call(v.Kind()), m.call(v.Kind())}
			for _, c := range calls {
				c.do(twin)
			}
			if look(v) != before {
				t.Fatalf("%q was %s", v.Raw(), before)
			}
			after := look(twin)
			for _, c := range calls {
				c.do(v)
			}
			if look(v) != after || look(twin) != after {
				t.Fatalf("%q and its clone go apart", v.Raw())
			}
		}
	}
}

// share tells whether two texts have bytes of one memory.
func share(a, b string) bool {
	if len(a) == 0 || len(b) == 0 {
		return false
	}
	x, y := uintptr(unsafe.Pointer(unsafe.StringData(a))), uintptr(unsafe.Pointer(unsafe.StringData(b)))
	return x < y+uintptr(len(b)) && y < x+uintptr(len(a))
}

// spoil writes over a list and behind its end.
func spoil[T any](list []T, with T) {
	for i := range list {
		list[i] = with
	}
	list = list[:cap(list)]
	for i := range list {
		list[i] = with
	}
	_ = append(list, with)
}

// lists asks for each list that a value tells, and hands it to its caller.
func lists(v *Value) []any {
	raw := v.Raw()
	names, _, _ := v.Scan(0, 3)
	members, _ := v.Members()
	part, _ := v.Range(0, 99)
	fields, _ := v.Fields()
	ranks, _ := v.ByRank(0, 99, true)
	scores, _ := v.ByScore(api.Bound{Inf: -1}, api.Bound{Inf: 1}, false, 0, 2)
	lex, _ := v.ByLex(api.Lex{Inf: -1}, api.Lex{Inf: 1}, false, 1, -1)
	return []any{raw, names, members, part, fields, ranks, scores, lex}
}

// TestListsAreCallers: lists that are told may be written over and made longer: no other one, and no later answer, sees it.
func TestListsAreCallers(t *testing.T) {
	for _, v := range samples(t) {
		want := told(lists(v))
		for i := range lists(v) {
			answers := lists(v)
			switch list := answers[i].(type) {
			case []string:
				spoil(list, "spoilt")
			case []api.Field:
				spoil(list, api.Field{Name: "spoilt"})
			case []api.Scored:
				spoil(list, api.Scored{Member: "spoilt"})
			}
			again := lists(v)
			if told(again) != want {
				t.Fatalf("kind %d, %s: %s, and was %s", v.Kind(), v.Encoding(), told(again), want)
			}
			answers[i] = again[i]
			if told(answers) != want {
				t.Fatalf("kind %d, %s: list %d shares memory with another one", v.Kind(), v.Encoding(), i)
			}
		}
	}
	popped := made(t, api.KindList, example)
	popped.Push(false, "a", "b", "c", "d", "e")
	first, _ := popped.Pop(true, 2)
	last, _ := popped.Pop(false, 2)
	spoil(first, "spoilt")
	if s, err := popped.At(0); s != "c" || err != api.OK || strings.Join(last, "") != "ed" {
		t.Errorf("%q is left, %q was last", s, last)
	}
}

// textsOf gives all texts of what a value tells.
func textsOf(v *Value) []string {
	var out []string
	for _, a := range lists(v) {
		switch list := a.(type) {
		case []string:
			out = append(out, list...)
		case []api.Field:
			out = append(out, inTurns(list)...)
		case []api.Scored:
			out = append(out, membersOf(list)...)
		}
	}
	text, _ := v.Text()
	entry, _ := v.At(0)
	value, _, _ := v.Field("c")
	return append(out, text, entry, value)
}

// TestTextsAreCallers: no two texts of answers are one memory, nor is one that of what was handed in.
func TestTextsAreCallers(t *testing.T) {
	// Numbers' texts below 100 are one memory for all programs.
	given := []string{"first text", "second text", "third text that is longer than most of the others are", "12345678901"}
	for _, th := range []api.Thresholds{least, greatest} {
		for _, kind := range kinds {
			v := made(t, kind, th)
			switch kind {
			case api.KindString:
				v.SetText(given[2])
			case api.KindList:
				v.Push(true, given...)
				v.SetAt(1, given[0])
				v.Insert(1, given[1])
			case api.KindHash:
				v.Put(api.Field{Name: given[0], Value: given[1]}, api.Field{Name: given[2], Value: given[3]}, api.Field{Name: "c", Value: given[2]})
			case api.KindZset:
				v.ZAdd(scoredNamed(1<<40, given...)...)
			default:
				v.Add(given...)
			}
			checkApart(t, v, given)
			loaded, err := Load(kind, v.Encoding(), v.Raw(), th)
			if err != api.OK {
				t.Fatalf("error %d", err)
			}
			checkApart(t, loaded, given)
		}
	}
	numbers := made(t, api.KindSet, greatest)
	numbers.Add("12345678901", "-500", "1000")
	checkApart(t, numbers, nil)
}

func checkApart(t *testing.T, v *Value, given []string) {
	t.Helper()
	first, second := textsOf(v), slices.Concat(textsOf(v), textsOf(v.Clone()), given)
	for _, a := range first {
		for _, b := range second {
			if share(a, b) && len(a) > 2 {
				t.Fatalf("kind %d, %s: %q and %q share memory", v.Kind(), v.Encoding(), a, b)
			}
		}
	}
	for i, a := range first {
		for _, b := range first[:i] {
			if share(a, b) && len(a) > 2 {
				t.Fatalf("kind %d, %s: of one answer %q and %q share memory", v.Kind(), v.Encoding(), a, b)
			}
		}
	}
}

// TestLoadKeepsNothing: the pieces that are handed to Load are not kept.
func TestLoadKeepsNothing(t *testing.T) {
	for _, v := range samples(t) {
		for _, th := range []api.Thresholds{example, least, greatest} {
			if v.Kind() == api.KindList {
				th = greatest
			}
			pieces := v.Raw()
			kept := slices.Clone(pieces)
			encoding := v.Encoding()
			loaded, err := Load(v.Kind(), encoding, pieces, th)
			if v.Kind() == api.KindList && err == api.ErrValue {
				continue
			}
			if err != api.OK || !slices.Equal(pieces, kept) {
				t.Fatalf("Load(%s, %q): error %d", encoding, kept, err)
			}
			spoil(pieces, "spoilt")
			if !loaded.Equal(v) {
				t.Fatalf("Load(%s, %q) has kept its pieces", encoding, kept)
			}
			for _, a := range loaded.Raw() {
				for _, b := range kept {
					if share(a, b) && len(a) > 2 {
						t.Fatalf("%q and %q share memory", a, b)
					}
				}
			}
		}
	}
}

// TestArgumentsAsTheyWere: lists that are handed in are neither changed nor kept.
func TestArgumentsAsTheyWere(t *testing.T) {
	names := []string{"c", "10", "a", "9", "a long member", "b", "10"}
	fields, members := fieldsNamed("v", names...), scoredNamed(3, names...)
	for _, th := range several {
		var held []*Value
		for _, kind := range kinds[1:] {
			v := made(t, kind, th)
			v.Push(true, names...)
			v.Add(names...)
			v.Put(fields...)
			v.ZAdd(members...)
			held = append(held, v, v.Clone())
		}
		if strings.Join(names, " ") != "c 10 a 9 a long member b 10" || !slices.Equal(fields, fieldsNamed("v", names...)) || !slices.Equal(members, scoredNamed(3, names...)) {
			t.Fatalf("%q", names)
		}
		spare := slices.Clone(names)
		spoil(spare, "spoilt")
		for i := 0; i < len(held); i += 2 {
			held[i].Drop(names...)
			held[i].Erase(names...)
			held[i].ZDrop(names...)
			if n := held[i].Len(); n != 0 && held[i].Kind() != api.KindList {
				t.Errorf("%d are left", n)
			}
			if held[i+1].Len() == 0 {
				t.Errorf("nothing is left of the clone")
			}
		}
	}
	spoiltLater(t)
}

// spoiltLater: lists that were handed in are written over behind the call.
func spoiltLater(t *testing.T) {
	for _, th := range several {
		names := []string{"c", "10", "a", "9", "a long member"}
		fields, members := fieldsNamed("v", names...), scoredNamed(3, names...)
		for _, kind := range kinds[1:] {
			v, want := made(t, kind, th), made(t, kind, th)
			for _, x := range []*Value{v, want} {
				list := slices.Clone(names)
				f, m := slices.Clone(fields), slices.Clone(members)
				x.Push(false, list...)
				x.Add(list...)
				x.Put(f...)
				x.ZAdd(m...)
				if x == v {
					spoil(list, "spoilt")
					spoil(f, api.Field{Name: "spoilt"})
					spoil(m, api.Scored{Member: "spoilt"})
				}
			}
			if !v.Equal(want) || !slices.Equal(v.Raw(), want.Raw()) {
				t.Errorf("kind %d: %q, and should be %q", kind, v.Raw(), want.Raw())
			}
		}
	}
}

// TestValuesApart: values that are asked by goroutines of their own, at the same time, answer as ever.
func TestValuesApart(t *testing.T) {
	play := func(kind int) string {
		m := &mix{uint64(40 + kind)}
		v, _ := New(kind, example)
		var out []string
		for range 200 {
			out = append(out, told(m.call(kind).do(v)), told(shapes[1].do(v)))
		}
		return strings.Join(out, "; ")
	}
	var wait sync.WaitGroup
	for _, kind := range kinds {
		want := play(kind)
		for range 4 {
			wait.Go(func() {
				if play(kind) != want {
					t.Errorf("kind %d: answers hang on other values", kind)
				}
			})
		}
	}
	wait.Wait()
}
