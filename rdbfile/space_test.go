package rdbfile

import (
	"fmt"
	"strings"
	"testing"

	"cistern/api"
	"cistern/codec"
	"cistern/keyspace"
	"cistern/value"
)

// seen is all that can be seen of a space without a change.
func seen(sp *keyspace.Space) string {
	var b strings.Builder
	fmt.Fprintln(&b, sp.Config(), sp.Now(), sp.Used(), sp.Len(-1))
	for db := -1; db <= api.MaxSpaces; db++ {
		keys := sp.Keys(db)
		if len(keys) == 0 {
			continue
		}
		cursor := 0
		for {
			list, next := sp.Scan(db, cursor, 3)
			fmt.Fprintf(&b, "%d: %d %q %d\n", db, sp.Len(db), list, next)
			if cursor = next; cursor == 0 {
				break
			}
		}
		for n, key := range keys {
			v, ok := sp.Peek(db, key)
			at, _ := sp.Expiry(db, key)
			picked, _ := sp.Pick(db, n)
			list, next, _ := v.Scan(0, 4)
			fmt.Fprintf(&b, "%q %q %t %d %s %q %d: at %d, mark %d, idle %d, scan %q %d\n", key, picked, ok, v.Kind(), v.Encoding(), v.Raw(), v.Size(), at, sp.Mark(db, key), sp.Idle(db, key), list, next)
		}
	}
	return b.String()
}

// sameSpace holds two spaces against each other, as they are, and as they go on.
func sameSpace(t testing.TB, got, want *keyspace.Space) {
	t.Helper()
	if a, b := seen(got), seen(want); a != b {
		t.Fatalf("got\n%s\nwant\n%s", a, b)
	}
	got, want = got.Clone(), want.Clone()
	for _, sp := range []*keyspace.Space{got, want} {
		sp.Put(0, "new", grown(new(mix), api.KindString, middle))
		sp.Advance(min(20, api.MaxNumber-sp.Now()))
		for db := range sp.Config().Spaces {
			for n, key := range sp.Keys(db) {
				if n%2 == 0 {
					sp.Drop(db, key)
				} else {
					sp.Get(db, key)
				}
			}
		}
	}
	if a, b := seen(got), seen(want); a != b || got.Random(1000) != want.Random(1000) {
		t.Fatalf("later: got\n%s\nwant\n%s", a, b)
	}
}

// refSnap is the image of a space, by the chapter's words.
func refSnap(sp *keyspace.Space, aux ...api.Pair) api.Image {
	i := api.Image{Aux: aux}
	for db := range api.MaxSpaces {
		var items []api.Item
		for n := range sp.Len(db) {
			key, _ := sp.Pick(db, n)
			v, _ := sp.Peek(db, key)
			at, _ := sp.Expiry(db, key)
			typ, body, _ := codec.Encode(v, sp.Config().Compress)
			items = append(items, api.Item{Key: key, Body: body, Type: typ, Expiry: at})
		}
		if len(items) > 0 {
			i.Spaces = append(i.Spaces, api.Space{Index: db, Items: items})
		}
	}
	return i
}

func newSpace(t testing.TB, c api.Config) *keyspace.Space {
	t.Helper()
	sp, e := keyspace.New(c)
	if e != api.OK {
		t.Fatalf("error %d", e)
	}
	return sp
}

func snapped(t testing.TB, sp *keyspace.Space, aux ...api.Pair) api.Image {
	t.Helper()
	i, e := Snap(sp, aux...)
	if e != api.OK {
		t.Fatalf("error %d", e)
	}
	return i
}

// TestSnap: databases without keys, with keys of every kind, with expiries and without.
func TestSnap(t *testing.T) {
	c := config(4, middle)
	sp := newSpace(t, c)
	if i := snapped(t, sp); !same(i, api.Image{}) {
		t.Errorf("%v", i)
	}
	who := []api.Pair{{Name: "who", Value: "test"}, {Name: "", Value: ""}, {Name: "who", Value: "again"}}
	if i := snapped(t, sp, who...); !same(i, api.Image{Aux: who}) {
		t.Errorf("%v", i)
	}
	list, _ := value.New(api.KindList, middle)
	list.Push(false, "a")
	s, _ := value.New(api.KindString, middle)
	s.SetText("12")
	sp.Advance(5)
	sp.Put(3, "b", list)
	sp.Put(3, "a", s)
	sp.Put(1, "", s)
	sp.Expire(3, "b", 9)
	sp.Expire(1, "", api.MaxNumber+5)
	want := api.Image{Aux: who[:1], Spaces: []api.Space{
		{Index: 1, Items: []api.Item{{Key: "", Body: "\xc0\x0c", Expiry: api.MaxNumber}}},
		{Index: 3, Items: []api.Item{{Key: "a", Body: "\xc0\x0c", Expiry: -1}, {Key: "b", Type: 18, Body: "\x01\x02" + plain(pack("a")), Expiry: 9}}},
	}}
	if i := snapped(t, sp, who[:1]...); !same(i, want) {
		t.Errorf("%v", i)
	}
	sp.Advance(4)
	want.Spaces[1].Items = want.Spaces[1].Items[:1]
	if i := snapped(t, sp, who[:1]...); !same(i, want) {
		t.Errorf("%v", i)
	}
	sp.Flush(3)
	want.Spaces = want.Spaces[:1]
	if i := snapped(t, sp, who[:1]...); !same(i, want) {
		t.Errorf("%v", i)
	}
}

// TestSnapCompress: bodies are packed as the Config says that holds now.
func TestSnapCompress(t *testing.T) {
	sp := newSpace(t, config(1, middle))
	s, _ := value.New(api.KindString, middle)
	long := strings.Repeat("long ", 30)
	s.SetText(long)
	sp.Put(0, "k", s)
	for _, compress := range []bool{false, true, false} {
		c := sp.Config()
		c.Compress = compress
		sp.Adjust(c)
		if i := snapped(t, sp); i.Spaces[0].Items[0].Body != codec.PutText(long, compress) {
			t.Errorf("%v", i)
		}
	}
}

// TestSnapEncodings: keys of every kind in every encoding have their types.
func TestSnapEncodings(t *testing.T) {
	met := map[int]bool{}
	m := mix(5)
	for _, th := range several {
		sp := newSpace(t, config(3, th))
		for n := range 200 {
			sp.Put(n%3, fmt.Sprint("key ", n), grown(&m, of(&m, kinds...), th))
		}
		i := snapped(t, sp)
		if !same(i, refSnap(sp)) {
			t.Fatalf("%s", shortImage(i))
		}
		for _, space := range i.Spaces {
			for _, item := range space.Items {
				met[item.Type] = true
			}
		}
	}
	for _, item := range every() {
		if !met[item.Type] {
			t.Errorf("type %d was not met", item.Type)
		}
	}
}

// TestSnapLong: an aux text that is too long, whichever it is, and one that is just not.
func TestSnapLong(t *testing.T) {
	sp := newSpace(t, config(2, middle))
	sp.Put(1, "k", grown(new(mix), api.KindList, middle))
	long := strings.Repeat("e", api.MaxElement)
	good := api.Pair{Name: long, Value: long}
	if i := snapped(t, sp, good, good); !same(i, refSnap(sp, good, good)) {
		t.Error("just at the limit")
	}
	for _, bad := range []api.Pair{{Name: long + "e"}, {Value: long + "e"}} {
		for _, aux := range [][]api.Pair{{bad}, {good, bad}, {bad, good}} {
			if i, e := Snap(sp, aux...); !same(i, api.Image{}) || e != api.ErrLong {
				t.Errorf("%s, %d", shortImage(i), e)
			}
		}
	}
}

// TestSnapChangesNothing: many spaces are as they were, and go on as they would have.
func TestSnapChangesNothing(t *testing.T) {
	m := mix(6)
	for range 300 {
		sp := grownSpace(&m, config(1+m.below(api.MaxSpaces), of(&m, several...)), several...)
		was := sp.Clone()
		if i := snapped(t, sp); !same(i, refSnap(was)) {
			t.Fatalf("%s", shortImage(i))
		}
		Snap(sp, api.Pair{Name: strings.Repeat("e", api.MaxElement+1)})
		sameSpace(t, sp, was)
	}
}

// TestSnapEmptied: a value from which all was taken without a word to the space is no value of a file.
func TestSnapEmptied(t *testing.T) {
	sp := newSpace(t, config(1, middle))
	v, _ := value.New(api.KindList, middle)
	v.Push(true, "a")
	sp.Put(0, "k", v)
	v.Pop(true, 1)
	if i, e := Snap(sp); !same(i, api.Image{}) || e != api.ErrValue {
		t.Errorf("%v, %d", i, e)
	}
	if i, e := Snap(nil); !same(i, api.Image{}) || e != api.ErrArg {
		t.Errorf("no space: %v, %d", i, e)
	}
}
