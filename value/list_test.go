package value

import (
	"math"
	"slices"
	"strings"
	"testing"

	"cistern/api"
	"cistern/varint"
)

// texts gives n texts that differ, of 1 byte and more.
func texts(n int) []string {
	list := make([]string, n)
	for i := range list {
		list[i] = varint.Digits(i)
	}
	return list
}

// numbersAround are numbers of places and counts: all up to n and a bit beyond, and far ones.
func numbersAround(n int) []int {
	list := []int{math.MinInt, math.MinInt + 1, -2, math.MaxInt - 1, math.MaxInt}
	for i := -1; i <= n+2; i++ {
		list = append(list, i)
	}
	return list
}

// TestP4Order: Push and Pop go one after the other, as the chapter says.
func TestP4Order(t *testing.T) {
	v := made(t, api.KindList, example)
	v.Push(false, "a", "b", "c")
	v.Push(true, "x", "y")
	need := func(what string, got []string, err api.Errno, want string) {
		t.Helper()
		if strings.Join(got, " ") != want || err != api.OK {
			t.Errorf("%s = %q, error %d, and should be %s", what, got, err, want)
		}
	}
	got, err := v.Range(0, 9)
	need("Range", got, err, "y x a b c")
	got, err = v.Pop(false, 2)
	need("Pop(back)", got, err, "c b")
	got, err = v.Pop(true, 2)
	need("Pop(front)", got, err, "y x")
	got, err = v.Pop(true, 2)
	need("Pop(front)", got, err, "a")
	got, err = v.Pop(false, 2)
	need("Pop(back)", got, err, "")
}

// TestP4Places: every call at each place, below 0, at the end and behind it, of lists of several lengths.
func TestP4Places(t *testing.T) {
	for _, th := range several {
		for n := range 6 {
			for _, i := range numbersAround(n) {
				calls := []call{at(i), setAt(i, "new"), setAt(i, "a long new entry"), setAt(i, tooLong), insert(i, "new"), insert(i, "a long new entry"), insert(i, tooLong),
					pop(true, i), pop(false, i)}
				for _, k := range numbersAround(n) {
					calls = append(calls, between(i, k), remove(i, k))
				}
				for _, c := range calls {
					r := &trial{t, made(t, api.KindList, th), newModel(api.KindList, th)}
					r.ask("New", push(false, texts(n)...))
					r.do(c)
				}
			}
		}
	}
}

// TestP4Push: none, one and many at both ends, and ones that are too long among them.
func TestP4Push(t *testing.T) {
	longest := strings.Repeat("y", api.MaxElement)
	for _, th := range several {
		for _, front := range []bool{true, false} {
			r := begin(t, api.KindList, th)
			r.do(push(front), push(front, "a"), push(!front, texts(9)...), push(front, ""), push(front, "b", longest, "c"),
				push(front, "d", tooLong), push(!front, tooLong, "d"), push(front, "e", tooLong, "f"))
			r.backAgain()
		}
	}
}

// fullList gives a list of n entries.
func fullList(t *testing.T, n int, th api.Thresholds) *Value {
	t.Helper()
	var nodes []string
	for part := range slices.Chunk(texts(n), th.ListEntries) {
		nodes = append(nodes, packOf(part))
	}
	v, err := Load(api.KindList, "quicklist", nodes, th)
	if err != api.OK || v.Len() != n {
		t.Fatalf("Load of %d entries: error %d", n, err)
	}
	return v
}

// TestP4Full: lists of the greatest count, and just below it.
func TestP4Full(t *testing.T) {
	t.Parallel()
	for _, th := range []api.Thresholds{greatest, {ListEntries: 64, ListBytes: 8}} {
		v := fullList(t, api.MaxCount-1, th)
		size := v.Size()
		refuse := func(what string, got, want api.Errno) {
			t.Helper()
			if got != want || v.Size() != size {
				t.Errorf("%s of %d: error %d, Size %d", what, v.Len(), got, v.Size()-size)
			}
		}
		refuse("Push of two", v.Push(false, "a", "b"), api.ErrLong)
		refuse("Push of two", v.Push(true, "a", "b"), api.ErrLong)
		if last, _ := v.At(v.Len() - 1); last != varint.Digits(api.MaxCount-2) || v.Len() != api.MaxCount-1 {
			t.Errorf("behind a Push that was refused: %s of %d", last, v.Len())
		}
		if err := v.Push(true, "a"); err != api.OK || v.Len() != api.MaxCount || v.Size() != size+17 {
			t.Errorf("Push of one: error %d", err)
		}
		size = v.Size()
		refuse("Push", v.Push(false, "a"), api.ErrLong)
		refuse("Push of none", v.Push(false), api.OK)
		refuse("Insert", v.Insert(5, "a"), api.ErrLong)
		refuse("Insert", v.Insert(api.MaxCount, "a"), api.ErrLong)
		refuse("Insert", v.Insert(api.MaxCount+1, "a"), api.ErrArg)
		refuse("Insert", v.Insert(-1, tooLong), api.ErrArg)
		refuse("SetAt", v.SetAt(0, "b"), api.OK)
		if got, err := v.Pop(false, 2); err != api.OK || strings.Join(got, " ") != "1048574 1048573" {
			t.Errorf("Pop = %q, error %d", got, err)
		}
		if err := v.Insert(1, "a"); err != api.OK || v.Len() != api.MaxCount-1 {
			t.Errorf("Insert: error %d", err)
		}
		if twin := v.Clone(); !twin.Equal(v) || twin.SetAt(api.MaxCount-2, "z") != api.OK || twin.Equal(v) {
			t.Errorf("a clone of %d entries is not as its own", v.Len())
		}
	}
}

// TestP4Bulk: many entries join in one call, and go in one.
func TestP4Bulk(t *testing.T) {
	list := texts(100000)
	v := made(t, api.KindList, api.Thresholds{ListEntries: 128, ListBytes: 64})
	if err := v.Push(false, list...); err != api.OK {
		t.Fatalf("error %d", err)
	}
	got, err := v.Pop(true, math.MaxInt)
	if !slices.Equal(got, list) || err != api.OK || v.Len() != 0 || v.Size() != 48 || v.Encoding() != "listpack" {
		t.Errorf("Pop: %d entries, error %d, Len %d, Size %d, %s", len(got), err, v.Len(), v.Size(), v.Encoding())
	}
}

// TestListEncodings: listpack up to one node, quicklist above, and back again.
func TestListEncodings(t *testing.T) {
	r := begin(t, api.KindList, example)
	r.do(push(false, "a", "b"))
	r.encoded("listpack")
	r.do(push(false, "c"))
	r.encoded("quicklist")
	r.do(pop(true, 2))
	r.encoded("listpack")
	r.do(push(true, "12345678"))
	r.encoded("listpack")
	r.do(setAt(0, "123456789"))
	r.encoded("quicklist")
	r.do(remove(1, 1))
	r.encoded("listpack")
	r.do(push(false, "a"))
	r.encoded("quicklist")
	r.do(pop(true, 9))
	r.encoded("listpack")
}
