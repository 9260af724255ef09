package rdbfile

import (
	"fmt"
	"strings"
	"testing"

	"cistern/api"
	"cistern/codec"
	"cistern/crc"
	"cistern/intset"
	"cistern/keyspace"
	"cistern/listpack"
	"cistern/value"
)

// This file makes files, images and spaces for the other tests.

// mix gives numbers that look mixed, the same ones in every run.
type mix uint64

func (m *mix) next() uint64 {
	*m ^= *m << 13
	*m ^= *m >> 7
	*m ^= *m << 17
	return uint64(*m)
}

func (m *mix) below(n int) int { return int(m.next() >> 11 % uint64(n)) }

func of[T any](m *mix, list ...T) T { return list[m.below(len(list))] }

// text gives n bytes of the first so many letters.
func (m *mix) text(n, kinds int) string {
	b := make([]byte, n)
	for i := range b {
		b[i] = byte('a' + m.below(kinds))
	}
	return string(b)
}

// word gives a text of any sort.
func (m *mix) word() string {
	switch m.below(7) {
	case 0:
		return fmt.Sprint(m.below(200))
	case 1:
		return fmt.Sprint(int(m.next()) >> m.below(64))
	case 2:
		return m.text(20+m.below(9), 1+m.below(3))
	case 3:
		return m.text(m.below(150), 1+m.below(9))
	case 4:
		return "0" + fmt.Sprint(m.below(9))
	}
	return m.text(m.below(4), 26)
}

// Thresholds, some of which let little be compact, some of which let all.
var (
	least   = api.Thresholds{ListEntries: 1}
	most    = api.Thresholds{ListEntries: 4096, ListBytes: 4096, SetInts: api.MaxCount, SetEntries: 4096, SetBytes: 4096, ZsetEntries: 4096, ZsetBytes: 4096, HashEntries: 4096, HashBytes: 4096}
	middle  = api.Thresholds{ListEntries: 3, ListBytes: 9, SetInts: 3, SetEntries: 3, SetBytes: 9, ZsetEntries: 3, ZsetBytes: 9, HashEntries: 3, HashBytes: 9}
	several = []api.Thresholds{least, most, middle}
	kinds   = []int{api.KindString, api.KindList, api.KindSet, api.KindZset, api.KindHash}
)

func config(spaces int, th api.Thresholds) api.Config { return api.Config{Spaces: spaces, Limits: th} }

const head = "REDIS0011"

// length is a length's bytes.
func length(n int) string {
	switch {
	case n < 1<<6:
		return string([]byte{byte(n)})
	case n < 1<<14:
		return string([]byte{byte(0x40 + n>>8), byte(n)})
	case n < 1<<32:
		return "\x80" + string([]byte{byte(n >> 24), byte(n >> 16), byte(n >> 8), byte(n)})
	}
	b := []byte{0x81}
	for i := 7; i >= 0; i-- {
		b = append(b, byte(n>>(8*i)))
	}
	return string(b)
}

// plain is a text's plain form, whatever text it is.
func plain(s string) string { return length(len(s)) + s }

// packed is a packed text that says to have so many bytes.
func packed(p string, n int) string { return "\xc3" + length(len(p)) + length(n) + p }

// run is a text of at most 32 bytes packed as one run: longer than the text, but sound.
func run(s string) string { return packed(string([]byte{byte(len(s) - 1)})+s, len(s)) }

func aux(name, value string) string { return "\xfa" + plain(name) + plain(value) }

func choose(index int) string { return "\xfe" + length(index) }

func resize(items, expiries int) string { return "\xfb" + length(items) + length(expiries) }

// eightBytes are those of a number, the lowest first.
func eightBytes(n uint64) string {
	var b []byte
	for range 8 {
		b = append(b, byte(n))
		n >>= 8
	}
	return string(b)
}

func due(at int) string { return "\xfc" + eightBytes(uint64(at)) }

// text is an item that is a text, without an expiry.
func text(key, s string) string { return "\x00" + plain(key) + plain(s) }

// summed is bytes with their sum behind them; sealed has the end's first byte ahead of it.
func summed(s string) string { return s + crc.Text(crc.Sum(s)) }

func sealed(s string) string { return summed(s + "\xff") }

// one is an image of one space with these items.
func one(items ...api.Item) api.Image {
	return api.Image{Spaces: []api.Space{{Items: items}}}
}

// texts are so many items, each with a key of its own.
func texts(n int) []api.Item {
	items := make([]api.Item, n)
	for i := range items {
		items[i] = api.Item{Key: fmt.Sprintf("k%d", i), Body: "\x00", Expiry: -1}
	}
	return items
}

func pack(values ...string) string {
	p, _ := listpack.New(values...)
	return p
}

func ints(numbers ...int) string {
	p := intset.New()
	for _, n := range numbers {
		p, _, _ = intset.Add(p, n)
	}
	return p
}

// every is an item of each type, with and without expiries.
func every() []api.Item {
	return []api.Item{
		{Key: "text", Type: 0, Body: "\x01b", Expiry: -1},
		{Key: "number", Type: 0, Body: "\xc1\x2c\x01", Expiry: 5},
		{Key: "packed", Type: 0, Body: codec.PutText(strings.Repeat("packed ", 40), true), Expiry: 0},
		{Key: "empty", Type: 0, Body: "\x00", Expiry: api.MaxNumber},
		{Key: "set", Type: 2, Body: "\x02\x01a\x01b", Expiry: -1},
		{Key: "sorted", Type: 3, Body: "\x02\x01a\xc0\x01\x01b\xc0\x02", Expiry: 7},
		{Key: "hash", Type: 4, Body: "\x01\x01a\x01b", Expiry: -1},
		{Key: "ints", Type: 11, Body: plain(ints(1, 70000)), Expiry: 1 << 40},
		{Key: "short hash", Type: 16, Body: plain(pack("a", "1")), Expiry: -1},
		{Key: "short sorted", Type: 17, Body: plain(pack("a", "1")), Expiry: 8},
		{Key: "list", Type: 18, Body: "\x02\x02" + plain(pack("a")) + "\x02" + plain(pack("b")), Expiry: -1},
		{Key: "", Type: 20, Body: plain(pack("a", "b")), Expiry: 9},
	}
}

// samples are images that may be.
func samples() []api.Image {
	sixteen := api.Image{Aux: []api.Pair{{Name: "a", Value: "1"}, {Name: "a", Value: "1"}}}
	for db := range api.MaxSpaces {
		sixteen.Spaces = append(sixteen.Spaces, api.Space{Index: db, Items: []api.Item{{Key: "k", Body: "\x00", Expiry: db - 1}}})
	}
	long := strings.Repeat("a long text ", 9)
	return []api.Image{
		{},
		{Aux: []api.Pair{{Name: "", Value: ""}}},
		{Aux: []api.Pair{{Name: "version", Value: "7"}, {Name: long, Value: long}, {Name: "-129", Value: "2147483648"}}},
		one(api.Item{Key: "a", Body: "\x01b", Expiry: 5}),
		one(api.Item{Key: "a", Body: "\x01b", Expiry: -1}),
		one(every()...),
		{Aux: []api.Pair{{Name: "who", Value: "test"}}, Spaces: []api.Space{{Index: 3, Items: every()}, {Index: 15, Items: every()[3:]}}},
		one(api.Item{Key: long, Body: "\x00", Expiry: -1}, api.Item{Key: "12", Body: "\x00", Expiry: 0}, api.Item{Key: "70000", Body: "\x00", Expiry: -1}),
		sixteen,
	}
}

// someImage gives an image that may be.
func someImage(m *mix) api.Image {
	var i api.Image
	for range m.below(4) {
		i.Aux = append(i.Aux, api.Pair{Name: m.word(), Value: m.word()})
	}
	for db := m.below(5); db < api.MaxSpaces && m.below(4) > 0; db += 1 + m.below(5) {
		space := api.Space{Index: db}
		keys := map[string]bool{}
		for range 1 + m.below(7) {
			item := of(m, every()...)
			item.Key, item.Expiry = m.word(), of(m, -1, -1, 0, m.below(99), api.MaxNumber, int(m.next()>>11))
			if m.below(3) == 0 {
				item.Type, item.Body = 0, codec.PutText(m.word(), m.below(2) == 0)
			}
			if !keys[item.Key] {
				space.Items = append(space.Items, item)
			}
			keys[item.Key] = true
		}
		i.Spaces = append(i.Spaces, space)
	}
	return i
}

// images are the samples, and so many others that may be.
func images(m *mix, n int) []api.Image {
	list := samples()
	for range n {
		list = append(list, someImage(m))
	}
	return list
}

// grown gives a value of a kind that has elements.
func grown(m *mix, kind int, th api.Thresholds) *value.Value {
	v, _ := value.New(kind, th)
	words := []string{m.word()}
	for range m.below(6) {
		words = append(words, of(m, m.word(), fmt.Sprint(m.below(9))))
	}
	if m.below(40) == 0 {
		words = append(words, strings.Repeat(m.text(9, 9), m.below(900)))
	}
	for _, s := range words {
		switch kind {
		case api.KindString:
			v.SetText(s)
		case api.KindList:
			v.Push(m.below(2) == 0, s)
		case api.KindSet:
			v.Add(s)
		case api.KindZset:
			v.ZAdd(api.Scored{Member: s, Score: of(m, m.below(9), -api.MaxNumber, api.MaxNumber)})
		case api.KindHash:
			v.Put(api.Field{Name: s, Value: m.word()})
		}
	}
	return v
}

// grownSpace gives a space that some calls have led to. Its values are made with one of the thresholds.
func grownSpace(m *mix, c api.Config, thresholds ...api.Thresholds) *keyspace.Space {
	sp, e := keyspace.New(c)
	if e != api.OK {
		panic(e)
	}
	for range m.below(40) {
		db, key := m.below(c.Spaces), of(m, m.word(), m.text(1, 5))
		keys := sp.Keys(db)
		switch m.below(12) {
		case 0:
			sp.Advance(m.below(9))
		case 1:
			sp.Drop(db, key)
		case 2:
			sp.Rename(db, key, m.word())
		case 3:
			sp.Move(db, key, m.below(c.Spaces))
		case 4:
			sp.Swap(db, m.below(c.Spaces))
		case 5:
			sp.Get(db, key)
		default:
			sp.Put(db, key, grown(m, of(m, kinds...), of(m, thresholds...)))
			keys = sp.Keys(db)
		}
		if len(keys) > 0 && m.below(2) == 0 {
			sp.Expire(db, of(m, keys...), sp.Now()+of(m, 1+m.below(50), api.MaxNumber))
		}
	}
	return sp
}

// TestFiles: what this file makes is what it says.
func TestFiles(t *testing.T) {
	for n, i := range samples() {
		if e := refCheck(i); e != api.OK {
			t.Errorf("image %d: %d", n, e)
		}
	}
	m := mix(1)
	for range 1000 {
		if e := refCheck(someImage(&m)); e != api.OK {
			t.Fatalf("error %d", e)
		}
	}
	for _, item := range every() {
		if e := codec.Checked(item.Type, item.Body); e != api.OK {
			t.Errorf("%q: error %d", item.Key, e)
		}
	}
	if s := packed("\x00a", 1); s != "\xc3\x02\x01\x00a" || run("a") != s || codec.PutText("a", true) != plain("a") {
		t.Errorf("%q", s)
	}
}
