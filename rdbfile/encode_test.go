package rdbfile

import (
	"fmt"
	"slices"
	"strings"
	"testing"

	"cistern/api"
	"cistern/codec"
)

func encoded(t testing.TB, i api.Image, compress bool) string {
	t.Helper()
	s, e := Encode(i, compress)
	if e != api.OK {
		t.Fatalf("Encode(%s): error %d", shortImage(i), e)
	}
	return s
}

// TestEncodeExamples: the chapter's examples, and what else is short enough to be written out.
func TestEncodeExamples(t *testing.T) {
	item := func(key, body string, typ, expiry int) api.Item {
		return api.Item{Key: key, Body: body, Type: typ, Expiry: expiry}
	}
	long := strings.Repeat("x", 21)
	cases := []struct {
		i        api.Image
		compress bool
		want     string
	}{
		{api.Image{}, false, "\xff"},
		{one(item("a", "\x01b", 0, 5)), false, "\xfe\x00\xfb\x01\x01\xfc\x05\x00\x00\x00\x00\x00\x00\x00\x00\x01a\x01b\xff"},
		{one(item("a", "\x01b", 0, -1)), true, "\xfe\x00\xfb\x01\x00\x00\x01a\x01b\xff"},
		{one(item("a", "\x01b", 0, 0)), true, "\xfe\x00\xfb\x01\x01\xfc\x00\x00\x00\x00\x00\x00\x00\x00\x00\x01a\x01b\xff"},
		{one(item("12", "\x01\x01m", 2, api.MaxNumber)), true, "\xfe\x00\xfb\x01\x01\xfc\xff\xff\xff\xff\xff\xff\x1f\x00\x02\xc0\x0c\x01\x01m\xff"},
		{api.Image{Aux: []api.Pair{{Name: "n", Value: "300"}, {Name: "", Value: ""}}}, false, "\xfa\x01n\xc1\x2c\x01\xfa\x00\x00\xff"},
		{api.Image{Aux: []api.Pair{{Name: long, Value: "v"}}}, false, "\xfa\x15" + long + "\x01v\xff"},
		{api.Image{Aux: []api.Pair{{Name: long, Value: "v"}}}, true, "\xfa\xc3\x05\x15\x00x\xe0\x0b\x00\x01v\xff"},
		{one(item(long, plain(long), 0, -1)), false, "\xfe\x00\xfb\x01\x00\x00\x15" + long + "\x15" + long + "\xff"},
		{one(item(long, plain(long), 0, -1)), true, "\xfe\x00\xfb\x01\x00\x00\xc3\x05\x15\x00x\xe0\x0b\x00\x15" + long + "\xff"},
		{api.Image{Spaces: []api.Space{{Index: 2, Items: []api.Item{item("b", "\x00", 0, -1), item("a", "\x00", 0, 1), item("c", "\x00", 0, -1)}}, {Index: 15, Items: []api.Item{item("b", "\x00", 0, -1)}}}}, false,
			"\xfe\x02\xfb\x03\x01\x00\x01b\x00\xfc\x01\x00\x00\x00\x00\x00\x00\x00\x00\x01a\x00\x00\x01c\x00\xfe\x0f\xfb\x01\x00\x00\x01b\x00\xff"},
	}
	for n, c := range cases {
		if s, e := Encode(c.i, c.compress); s != summed(head+c.want) || e != api.OK {
			t.Errorf("%d: %q, %d; want %q", n, s, e, summed(head+c.want))
		}
	}
	if s := encoded(t, api.Image{}, true); len(s) != 18 {
		t.Errorf("empty: %q", s)
	}
}

// TestEncodeImages: many images that may be, compressed or not, held against the chapter's words.
func TestEncodeImages(t *testing.T) {
	m := mix(2)
	for _, i := range images(&m, 3000) {
		for _, compress := range []bool{false, true} {
			if s := encoded(t, i, compress); s != refWrite(i, compress) {
				t.Fatalf("Encode(%s, %t) = %q; want %q", shortImage(i), compress, s, refWrite(i, compress))
			}
		}
	}
}

// TestEncodeLists: nil and the empty list are the same.
func TestEncodeLists(t *testing.T) {
	want := encoded(t, api.Image{}, false)
	if s := encoded(t, api.Image{Aux: []api.Pair{}, Spaces: []api.Space{}}, false); s != want {
		t.Errorf("%q", s)
	}
	for _, items := range [][]api.Item{nil, {}} {
		if s, e := Encode(one(items...), false); s != "" || e != api.ErrArg {
			t.Errorf("%q, %d", s, e)
		}
	}
}

// TestEncodeLimits: what is just at a limit may be.
func TestEncodeLimits(t *testing.T) {
	long, key := strings.Repeat("e", api.MaxElement), strings.Repeat("k", api.MaxKey)
	images := []api.Image{
		{Aux: []api.Pair{{Name: long, Value: long}}},
		one(api.Item{Key: key, Body: "\x00", Expiry: -1}),
		one(api.Item{Key: "a", Body: plain(long + "more than an element"), Expiry: -1}),
		one(texts(api.MaxKeys)...),
		{Spaces: []api.Space{{Index: 0, Items: texts(api.MaxKeys - 2)}, {Index: 1, Items: texts(1)}, {Index: 15, Items: texts(1)}}},
	}
	for n, i := range images {
		for _, compress := range []bool{false, true} {
			s := encoded(t, i, compress)
			if j, size, e := Decode(s); !same(i, j) || size != len(s) || e != api.OK {
				t.Errorf("%d: %d, %d", n, size, e)
			}
		}
	}
	if s := encoded(t, images[0], false); s != sealed(head+aux(long, long)) {
		t.Errorf("%s", short(s))
	}
}

// flaw is one way in which an image may not be. It spoils an image of four spaces, at one of the first or the last.
type flaw struct {
	name  string
	e     api.Errno
	spoil func(i *api.Image, space *api.Space)
}

func flaws() []flaw {
	long, key := strings.Repeat("e", api.MaxElement+1), strings.Repeat("k", api.MaxKey+1)
	many := texts(api.MaxKeys + 1)
	of := func(set func(item *api.Item)) func(*api.Image, *api.Space) {
		return func(i *api.Image, space *api.Space) {
			item := api.Item{Key: fmt.Sprint("new ", len(space.Items)), Body: "\x00", Expiry: -1}
			set(&item)
			space.Items = append(space.Items, item)
		}
	}
	list := []flaw{
		{"a long name", api.ErrLong, func(i *api.Image, _ *api.Space) { i.Aux = append(i.Aux, api.Pair{Name: long}) }},
		{"a long value", api.ErrLong, func(i *api.Image, _ *api.Space) { i.Aux = append([]api.Pair{{Value: long}}, i.Aux...) }},
		{"a long key", api.ErrLong, of(func(item *api.Item) { item.Key = key })},
		{"too many items", api.ErrLong, func(_ *api.Image, space *api.Space) { space.Items = append(space.Items, many...) }},
		{"a key twice", api.ErrTwice, func(_ *api.Image, space *api.Space) { space.Items = append(space.Items, space.Items[0]) }},
		{"an expiry below -1", api.ErrArg, of(func(item *api.Item) { item.Expiry = -2 })},
		{"an expiry above MaxNumber", api.ErrArg, of(func(item *api.Item) { item.Expiry = api.MaxNumber + 1 })},
		{"an Index below 0", api.ErrArg, func(i *api.Image, _ *api.Space) { i.Spaces[0].Index = -1 }},
		{"an Index of MaxSpaces", api.ErrArg, func(i *api.Image, _ *api.Space) { i.Spaces[3].Index = api.MaxSpaces }},
		{"an Index twice", api.ErrArg, func(i *api.Image, _ *api.Space) { i.Spaces[1].Index = i.Spaces[2].Index }},
		{"Indexes that fall", api.ErrArg, func(i *api.Image, _ *api.Space) { i.Spaces[2].Index = i.Spaces[1].Index - 1 }},
		{"no items", api.ErrArg, func(i *api.Image, _ *api.Space) { i.Spaces[1].Items = nil }},
	}
	for _, body := range []struct {
		name, bytes string
		typ         int
	}{
		{"no such type", "\x00", 1}, {"a type below 0", "\x00", -1}, {"a type of more than a byte", "\x00", 256}, {"FC as a type", "\x00", 0xfc},
		{"no body", "", 0}, {"a body that is cut", "\x02a", 0}, {"a byte behind a body", "\x01ab", 0}, {"a body that is none", "\xc4", 0},
		{"a body of a count that is too great", length(api.MaxCount + 1), 2}, {"a list without nodes' bytes", "\x01\x01" + plain(pack("a")), 18},
	} {
		list = append(list, flaw{body.name, api.ErrValue, of(func(item *api.Item) { item.Body, item.Type = body.bytes, body.typ })})
	}
	return list
}

func spaces(n int) api.Image {
	i := api.Image{Aux: []api.Pair{{Name: "a", Value: "b"}}}
	for db := range n {
		i.Spaces = append(i.Spaces, api.Space{Index: 3 + 2*db, Items: every()[:3]})
	}
	return i
}

// TestEncodeRefused: each way in which an image may not be, and each two of them, whichever stands first.
func TestEncodeRefused(t *testing.T) {
	order := []api.Errno{api.ErrLong, api.ErrTwice, api.ErrValue, api.ErrArg}
	refused := func(i api.Image, name string, e api.Errno) {
		if got := refCheck(i); got != e {
			t.Fatalf("%s: the chapter's words tell %d, want %d", name, got, e)
		}
		if s, got := Encode(i, false); s != "" || got != e {
			t.Errorf("Encode, %s: %s, %d; want %d", name, short(s), got, e)
		}
		if sp, got := Load(i, config(api.MaxSpaces, middle), 0); sp != nil || got != api.ErrArg {
			t.Errorf("Load, %s: %v, %d", name, sp, got)
		}
	}
	list := flaws()
	for n, a := range list {
		for _, at := range []int{0, 3} {
			i := spaces(4)
			a.spoil(&i, &i.Spaces[at])
			refused(i, a.name, a.e)
			for _, b := range list[n+1:] {
				i := spaces(4)
				a.spoil(&i, &i.Spaces[at])
				b.spoil(&i, &i.Spaces[3-at])
				e := order[min(slices.Index(order, a.e), slices.Index(order, b.e))]
				refused(i, a.name+" and "+b.name, e)
			}
		}
	}
}

// TestEncodeSameKey: a key may stand in two spaces, and keys may differ by their last byte.
func TestEncodeSameKey(t *testing.T) {
	i := spaces(2)
	i.Spaces[0].Items = append(i.Spaces[0].Items, api.Item{Key: "text\x00", Body: "\x00", Expiry: -1})
	if e := refCheck(i); e != api.OK {
		t.Fatalf("error %d", e)
	}
	s := encoded(t, i, false)
	if s != refWrite(i, false) {
		t.Errorf("%q", s)
	}
	if strings.Count(s, codec.PutText("text", false)) != 2 {
		t.Errorf("%q", s)
	}
}
