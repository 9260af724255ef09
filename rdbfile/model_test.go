package rdbfile

import (
	"fmt"
	"slices"
	"testing"

	"cistern/api"
	"cistern/codec"
	"cistern/crc"
	"cistern/varint"
)

// This file holds what the chapter says of a file, word by word: what the package answers is held against it.

// outcome is what Decode and Parts answer together.
type outcome struct {
	image    api.Image
	findings []api.Finding
	at       int
	e        api.Errno
}

// refSpace is the space that the model reads.
type refSpace struct {
	resize, items, expiries int
	keys                    map[string]bool
}

// refFile reads a file by the chapter's words. What stood ahead is told by a letter: h a head or an aux, s a select, r a resize, i an item.
type refFile struct {
	s      string
	at     int
	ahead  byte
	all    int
	told   refSpace
	met    refSpace
	answer outcome
}

func refRead(s string) outcome {
	f := &refFile{s: s, ahead: 'h'}
	at, e := f.head()
	for e == api.OK && f.ahead != 'e' {
		at, e = f.part()
	}
	if e != api.OK {
		f.answer.image = api.Image{}
	} else {
		at = len(s)
	}
	f.answer.at, f.answer.e = at, e
	return f.answer
}

func (f *refFile) head() (int, api.Errno) {
	for i := range min(5, len(f.s)) {
		if f.s[i] != "REDIS"[i] {
			return 0, api.ErrHead
		}
	}
	if len(f.s) < 9 {
		return 0, api.ErrShort
	}
	if f.s[5:9] != "0011" {
		return 0, api.ErrVersion
	}
	f.at = 9
	return 0, api.OK
}

func isType(b byte) bool { return slices.Contains([]byte{0, 2, 3, 4, 11, 16, 17, 18, 20}, b) }

// part reads a part: where it is at fault, and its error.
func (f *refFile) part() (int, api.Errno) {
	begin := f.at
	if begin == len(f.s) {
		return begin, api.ErrShort
	}
	first := f.s[begin]
	f.at++
	switch {
	case first == 0xfa && f.ahead == 'h' && len(f.answer.image.Spaces) == 0:
		return begin, f.aux()
	case first == 0xfb && f.ahead == 's':
		return begin, f.resize(begin)
	case (first == 0xfc || isType(first)) && (f.ahead == 'r' || f.ahead == 'i'):
		return begin, f.item(begin, first)
	case (first == 0xfe || first == 0xff) && (f.ahead == 'h' || f.ahead == 'i'):
		if f.ahead == 'i' && (f.told.items != f.met.items || f.told.expiries != f.met.expiries) {
			return f.told.resize, api.ErrForm
		}
		if first == 0xfe {
			return begin, f.choose()
		}
		return f.end(begin)
	}
	return begin, api.ErrOpcode
}

func (f *refFile) text(most int) (string, api.Errno) {
	s, n, e := codec.Text(f.s[f.at:])
	if e == api.OK && len(s) > most {
		e = api.ErrLong
	}
	f.at += n
	return s, e
}

func (f *refFile) length() (int, api.Errno) {
	n, size, special, e := varint.Len(f.s[f.at:])
	if special > 0 {
		e = api.ErrForm
	}
	f.at += size
	return n, e
}

func (f *refFile) aux() api.Errno {
	name, e := f.text(1 << 19)
	if e != api.OK {
		return e
	}
	value, e := f.text(1 << 19)
	if e != api.OK {
		return e
	}
	f.answer.image.Aux = append(f.answer.image.Aux, api.Pair{Name: name, Value: value})
	return api.OK
}

func (f *refFile) choose() api.Errno {
	n, e := f.length()
	if e != api.OK {
		return e
	}
	if n > 15 {
		return api.ErrLong
	}
	for _, space := range f.answer.image.Spaces {
		if space.Index >= n {
			return api.ErrTwice
		}
	}
	f.answer.image.Spaces = append(f.answer.image.Spaces, api.Space{Index: n})
	f.ahead = 's'
	return api.OK
}

func (f *refFile) resize(begin int) api.Errno {
	items, e := f.length()
	if e != api.OK {
		return e
	}
	expiries, e := f.length()
	if e != api.OK {
		return e
	}
	if items > 1<<17 {
		return api.ErrLong
	}
	if items < 1 || expiries > items {
		return api.ErrForm
	}
	f.told = refSpace{resize: begin, items: items, expiries: expiries}
	f.met = refSpace{keys: map[string]bool{}}
	f.ahead = 'r'
	return api.OK
}

func (f *refFile) item(begin int, first byte) api.Errno {
	item := api.Item{Expiry: -1}
	if first == 0xfc {
		if len(f.s)-f.at < 8 {
			return api.ErrShort
		}
		at := uint64(0)
		for i := 7; i >= 0; i-- {
			at = at*256 + uint64(f.s[f.at+i])
		}
		if at >= 1<<53 {
			return api.ErrForm
		}
		f.at += 8
		item.Expiry = int(at)
		f.met.expiries++
		if f.at == len(f.s) {
			return api.ErrShort
		}
		first = f.s[f.at]
		f.at++
		if !isType(first) {
			return api.ErrOpcode
		}
	}
	key, e := f.text(1 << 16)
	if e != api.OK {
		return e
	}
	if f.met.keys[key] {
		return api.ErrTwice
	}
	f.met.keys[key] = true
	f.all++
	if f.all > 1<<17 {
		return api.ErrLong
	}
	size, e := codec.Size(int(first), f.s[f.at:])
	if e != api.OK {
		return e
	}
	item.Type, item.Key, item.Body = int(first), key, f.s[f.at:f.at+size]
	f.at += size
	f.met.items++
	space := &f.answer.image.Spaces[len(f.answer.image.Spaces)-1]
	space.Items = append(space.Items, item)
	f.answer.findings = append(f.answer.findings, api.Finding{At: begin, Size: f.at - begin, Space: space.Index, Type: int(first), Key: key})
	f.ahead = 'i'
	return api.OK
}

func (f *refFile) end(begin int) (int, api.Errno) {
	if len(f.s)-f.at < 8 {
		return begin, api.ErrShort
	}
	if f.s[f.at:f.at+8] != crc.Text(crc.Sum(f.s[:f.at])) {
		return begin, api.ErrSum
	}
	if len(f.s)-f.at > 8 {
		return f.at + 8, api.ErrBehind
	}
	f.ahead = 'e'
	return begin, api.OK
}

// refCheck tells whether an image may be, by the chapter's words.
func refCheck(i api.Image) api.Errno {
	all, twice, broken, odd := 0, false, false, false
	ahead := -1
	for _, pair := range i.Aux {
		if len(pair.Name) > 1<<19 || len(pair.Value) > 1<<19 {
			return api.ErrLong
		}
	}
	for _, space := range i.Spaces {
		odd = odd || space.Index < 0 || space.Index > 15 || space.Index <= ahead || len(space.Items) == 0
		ahead = space.Index
		keys := map[string]bool{}
		for _, item := range space.Items {
			if len(item.Key) > 1<<16 {
				return api.ErrLong
			}
			twice = twice || keys[item.Key]
			keys[item.Key] = true
			n, e := codec.Size(item.Type, item.Body)
			broken = broken || e != api.OK || n != len(item.Body)
			odd = odd || item.Expiry < -1 || item.Expiry >= 1<<53
			all++
		}
	}
	switch {
	case all > 1<<17:
		return api.ErrLong
	case twice:
		return api.ErrTwice
	case broken:
		return api.ErrValue
	case odd:
		return api.ErrArg
	}
	return api.OK
}

// refWrite is the file of an image that may be.
func refWrite(i api.Image, compress bool) string {
	s := head
	for _, pair := range i.Aux {
		s += "\xfa" + codec.PutText(pair.Name, compress) + codec.PutText(pair.Value, compress)
	}
	for _, space := range i.Spaces {
		expiries, items := 0, ""
		for _, item := range space.Items {
			if item.Expiry >= 0 {
				expiries++
				items += due(item.Expiry)
			}
			items += string([]byte{byte(item.Type)}) + codec.PutText(item.Key, compress) + item.Body
		}
		s += choose(space.Index) + resize(len(space.Items), expiries) + items
	}
	return sealed(s)
}

// same tells whether two images hold the same; nil and the empty list are alike.
func same(a, b api.Image) bool {
	return slices.Equal(a.Aux, b.Aux) && slices.EqualFunc(a.Spaces, b.Spaces, func(a, b api.Space) bool {
		return a.Index == b.Index && slices.Equal(a.Items, b.Items)
	})
}

func short(s string) string {
	if len(s) > 300 {
		return fmt.Sprintf("%q.. (%d bytes)", s[:60], len(s))
	}
	return fmt.Sprintf("%q", s)
}

func shortImage(i api.Image) string {
	s := fmt.Sprintf("%+v", i)
	if len(s) > 600 {
		return fmt.Sprintf("%s.. (%d spaces)", s[:600], len(i.Spaces))
	}
	return s
}

// checkFile holds Decode and Parts against the chapter's words.
func checkFile(t testing.TB, s string) outcome {
	t.Helper()
	want := refRead(s)
	i, at, e := Decode(s)
	if at != want.at || e != want.e || !same(i, want.image) {
		t.Fatalf("Decode(%s) = %s at %d error %d; want %s at %d error %d", short(s), shortImage(i), at, e, shortImage(want.image), want.at, want.e)
	}
	findings, at, e := Parts(s)
	if at != want.at || e != want.e || !slices.Equal(findings, want.findings) {
		t.Fatalf("Parts(%s) = %+v at %d error %d; want %+v at %d error %d", short(s), findings, at, e, want.findings, want.at, want.e)
	}
	return want
}

// checkFault holds a file that is none against what is written out, and against the chapter's words.
func checkFault(t testing.TB, name, s string, at int, e api.Errno) {
	t.Helper()
	if got := checkFile(t, s); got.at != at || got.e != e {
		t.Fatalf("%s: the chapter's words tell %d at %d of %s; want %d at %d", name, got.e, got.at, short(s), e, at)
	}
}
