package rdbfile

import (
	"fmt"
	"slices"
	"strings"
	"testing"

	"cistern/api"
	"cistern/codec"
)

// TestDecodeExamples: the chapter's examples.
func TestDecodeExamples(t *testing.T) {
	empty := sealed(head)
	if i, n, e := Decode(empty); !same(i, api.Image{}) || n != 18 || e != api.OK {
		t.Errorf("%v, %d, %d", i, n, e)
	}
	checkFault(t, "the first 17", empty[:17], 9, api.ErrShort)
	checkFault(t, "a byte behind", empty+"x", 18, api.ErrBehind)
	checkFault(t, "another last byte", empty[:17]+string([]byte{empty[17] + 1}), 9, api.ErrSum)
	s := summed(head + "\xfe\x00\xfb\x01\x01\xfc\x05\x00\x00\x00\x00\x00\x00\x00\x00\x01a\x01b\xff")
	want := one(api.Item{Key: "a", Body: "\x01b", Expiry: 5})
	if i, n, e := Decode(s); !same(i, want) || n != len(s) || e != api.OK {
		t.Errorf("%v, %d, %d", i, n, e)
	}
	checkFault(t, "a version", "REDIS0012", 0, api.ErrVersion)
	checkFault(t, "a beginning", "RED", 0, api.ErrShort)
	checkFault(t, "another beginning", "REX", 0, api.ErrHead)
	checkFault(t, "no resize", head+"\xfe\x00\xff", 11, api.ErrOpcode)
}

// TestDecodeFiles: files of many images, and what Parts tells of them.
func TestDecodeFiles(t *testing.T) {
	m := mix(3)
	for _, i := range images(&m, 3000) {
		for _, compress := range []bool{false, true} {
			s := refWrite(i, compress)
			if want := checkFile(t, s); !same(want.image, i) || want.at != len(s) || want.e != api.OK {
				t.Fatalf("%q: %s at %d error %d", s, shortImage(want.image), want.at, want.e)
			}
		}
	}
}

// TestDecodeHeads: heads of 0 to 9 bytes with each of them wrong.
func TestDecodeHeads(t *testing.T) {
	for n := range 10 {
		at, e := 0, api.ErrShort
		if n == 9 {
			at = 9
		}
		checkFault(t, "a head", head[:n], at, e)
		for i := range n {
			for b := range 256 {
				if byte(b) == head[i] {
					continue
				}
				e := api.ErrHead
				if i >= 5 {
					e = api.ErrShort
				}
				if i >= 5 && n == 9 {
					e = api.ErrVersion
				}
				bytes := []byte(head[:n])
				bytes[i] = byte(b)
				checkFault(t, "a head", string(bytes), 0, e)
			}
		}
	}
	checkFault(t, "both are wrong", "REDIZ0012", 0, api.ErrHead)
	checkFault(t, "small letters", "redis0011", 0, api.ErrHead)
	checkFault(t, "an older version", "REDIS0010\xff", 0, api.ErrVersion)
	checkFault(t, "seven letters", "REDIS99", 0, api.ErrShort)
	for _, s := range samples() {
		file := refWrite(s, false)
		checkFault(t, "a file of another version", "REDIS0009"+file[9:], 0, api.ErrVersion)
		checkFault(t, "a file with another head", "RADIS"+file[5:], 0, api.ErrHead)
	}
}

// TestDecodeFirstBytes: which bytes a part may begin with, at each place: if only that byte is there, it is cut; any other is none.
func TestDecodeFirstBytes(t *testing.T) {
	types := "\x00\x02\x03\x04\x0b\x10\x11\x12\x14"
	space := head + aux("a", "b") + choose(3) + resize(1, 0)
	expiring := head + choose(3) + resize(1, 1)
	places := []struct{ name, s, may string }{
		{"behind the head", head, "\xfa\xfe\xff"},
		{"behind an aux", head + aux("a", "b"), "\xfa\xfe\xff"},
		{"behind a select", head + choose(3), "\xfb"},
		{"behind a select and an aux", head + aux("a", "b") + choose(0), "\xfb"},
		{"behind a resize", space, "\xfc" + types},
		{"behind an item", space + text("a", ""), "\xfc\xfe\xff" + types},
		{"behind an item that expires", expiring + due(1) + text("a", ""), "\xfc\xfe\xff" + types},
		{"behind a second select", space + text("a", "") + choose(4), "\xfb"},
		{"behind a second resize", space + text("a", "") + choose(4) + resize(1, 0), "\xfc" + types},
		{"behind a second space's item", space + text("a", "") + choose(4) + resize(1, 0) + text("a", ""), "\xfc\xfe\xff" + types},
	}
	for _, p := range places {
		checkFault(t, p.name, p.s, len(p.s), api.ErrShort)
		for b := range 256 {
			first := string([]byte{byte(b)})
			if strings.Contains(p.may, first) {
				checkFault(t, p.name, p.s+first, len(p.s), api.ErrShort)
				continue
			}
			checkFault(t, p.name, p.s+first, len(p.s), api.ErrOpcode)
			checkFault(t, p.name, p.s+first+"\x01a\x01b\x01c\x01d", len(p.s), api.ErrOpcode)
		}
	}
	for b := range 256 {
		s := sealed(head)
		checkFault(t, "behind the end", s+string([]byte{byte(b)}), len(s), api.ErrBehind)
		first := string([]byte{byte(b)})
		if !strings.Contains(types, first) {
			checkFault(t, "behind an expiry", expiring+due(1)+first, len(expiring), api.ErrOpcode)
		} else {
			checkFault(t, "behind an expiry", expiring+due(1)+first, len(expiring), api.ErrShort)
		}
	}
}

// textFault is a text that is none, or too long.
type textFault struct {
	s string
	e api.Errno
}

// textFaults are such, with what is told of them where the text may have so many bytes.
func textFaults(most int) []textFault {
	return []textFault{
		{"", api.ErrShort}, {"\x01", api.ErrShort}, {"\x05abcd", api.ErrShort}, {"\x40", api.ErrShort}, {"\x80\x00\x00", api.ErrShort},
		{"\xc0", api.ErrShort}, {"\xc1\x00", api.ErrShort}, {"\xc2\x00\x00\x00", api.ErrShort}, {"\xc3", api.ErrShort}, {"\xc3\x02\x01", api.ErrShort},
		{"\xc4", api.ErrForm}, {"\x82", api.ErrForm}, {"\xfe", api.ErrForm}, {"\x40\x01a", api.ErrForm}, {"\xc1\x01\x00", api.ErrForm},
		{"\xc2\x01\x00\x00\x00", api.ErrForm}, {"\xc3\xc0\x01", api.ErrForm}, {"\xc3\x01\xc3", api.ErrForm}, {"\x81\xff\xff\xff\xff\xff\xff\xff\xff", api.ErrForm},
		{length(codec.MaxBlob + 1), api.ErrLong}, {"\xc3" + length(codec.MaxBlob+1) + "\x01", api.ErrLong}, {"\xc3\x01" + length(codec.MaxBlob+1), api.ErrLong},
		{packed("\x00", api.MaxElement+1), api.ErrLong}, {packed("\x00a", 2), api.ErrSize}, {packed("\x01ab", 1), api.ErrSize}, {packed("\x00a", 0), api.ErrSize},
		{packed("\x00a\x20\x01", 4), api.ErrRef}, {packed("\x01a", 2), api.ErrShort}, {packed("\xe0", 9), api.ErrShort},
		{plain(strings.Repeat("a", most+1)), api.ErrLong},
		{codec.PutText(strings.Repeat("a", most+1), true), api.ErrLong},
	}
}

// TestDecodeAux: names and values that are no texts, or too long; the name is looked at first.
func TestDecodeAux(t *testing.T) {
	faults := textFaults(api.MaxElement)
	for _, ahead := range []string{head, head + aux("a", "b")} {
		for _, f := range faults {
			checkFault(t, "a name", ahead+"\xfa"+f.s, len(ahead), f.e)
			checkFault(t, "a value", ahead+"\xfa\x01n"+f.s, len(ahead), f.e)
			if f.e != api.ErrShort {
				for _, g := range faults {
					checkFault(t, "a name, and a value", ahead+"\xfa"+f.s+g.s, len(ahead), f.e)
				}
			}
		}
	}
	long := strings.Repeat("e", api.MaxElement)
	for _, s := range []string{plain(long), codec.PutText(long, true)} {
		got := checkFile(t, sealed(head+"\xfa"+s+s))
		if got.e != api.OK || got.image.Aux[0] != (api.Pair{Name: long, Value: long}) {
			t.Errorf("error %d", got.e)
		}
	}
	got := checkFile(t, sealed(head+"\xfa\xc0\x0c"+run("x")+"\xfa\x0212\x00"))
	if got.e != api.OK || !slices.Equal(got.image.Aux, []api.Pair{{Name: "12", Value: "x"}, {Name: "12", Value: ""}}) {
		t.Errorf("%v, error %d", got.image, got.e)
	}
}

// lengthFaults are lengths that are none.
var lengthFaults = []textFault{
	{"", api.ErrShort}, {"\x40", api.ErrShort}, {"\x80\x00\x00\x40", api.ErrShort}, {"\x81\x00\x00\x00\x01\x00\x00\x00", api.ErrShort},
	{"\xc0", api.ErrForm}, {"\xc1", api.ErrForm}, {"\xc2", api.ErrForm}, {"\xc3", api.ErrForm}, {"\x82", api.ErrForm}, {"\xff", api.ErrForm},
	{"\x40\x01", api.ErrForm}, {"\x80\x00\x00\x00\x01", api.ErrForm}, {"\x81\x00\x00\x00\x00\x00\x00\x00\x01", api.ErrForm}, {"\x81\xff\xff\xff\xff\xff\xff\xff\xff", api.ErrForm},
}

// TestDecodeSelect: an Index that is none, too great, or not greater than the one ahead.
func TestDecodeSelect(t *testing.T) {
	first := head + aux("a", "b")
	for _, f := range lengthFaults {
		checkFault(t, "a select", first+"\xfe"+f.s, len(first), f.e)
	}
	for _, n := range []int{16, 17, 63, 64, 1 << 14, 1 << 32, 1 << 62} {
		checkFault(t, "too great", first+choose(n)+resize(1, 0)+text("a", ""), len(first), api.ErrLong)
	}
	for a := range 16 {
		space := first + choose(a) + resize(1, 0) + text("a", "")
		for b := range 18 {
			s := sealed(space + choose(b) + resize(1, 0) + text("a", ""))
			switch {
			case b > 15:
				checkFault(t, "too great", s, len(space), api.ErrLong)
			case b <= a:
				checkFault(t, "not greater", s, len(space), api.ErrTwice)
			default:
				checkFault(t, "greater", s, len(s), api.OK)
			}
		}
	}
	space := func(n int) string { return choose(n) + resize(1, 0) + text("a", "") }
	checkFault(t, "the first one again", first+space(1)+space(2)+space(1), len(first+space(1)+space(2)), api.ErrTwice)
	for _, f := range lengthFaults {
		checkFault(t, "a second select", first+space(1)+"\xfe"+f.s, len(first+space(1)), f.e)
	}
}

// TestDecodeResize: lengths that are none, and counts that can't be, in the chapter's order.
func TestDecodeResize(t *testing.T) {
	first := head + choose(0)
	item := text("a", "")
	for _, f := range lengthFaults {
		checkFault(t, "the items", first+"\xfb"+f.s, len(first), f.e)
		for _, items := range []int{0, 1, api.MaxKeys, api.MaxKeys + 1} {
			checkFault(t, "the expiries", first+"\xfb"+length(items)+f.s, len(first), f.e)
		}
		if f.e == api.ErrShort {
			continue
		}
		for _, g := range lengthFaults {
			checkFault(t, "both", first+"\xfb"+f.s+g.s, len(first), f.e)
		}
		checkFault(t, "the items", first+"\xfb"+f.s+"\x00"+item, len(first), f.e)
	}
	cases := []struct {
		items, expiries int
		e               api.Errno
	}{
		{0, 0, api.ErrForm}, {0, 1, api.ErrForm}, {0, api.MaxKeys + 1, api.ErrForm}, {1, 2, api.ErrForm}, {api.MaxKeys, api.MaxKeys + 1, api.ErrForm}, {1, 1 << 62, api.ErrForm},
		{api.MaxKeys + 1, 0, api.ErrLong}, {api.MaxKeys + 1, api.MaxKeys + 2, api.ErrLong}, {1 << 62, 1 << 62, api.ErrLong}, {1 << 32, 1, api.ErrLong},
	}
	for _, c := range cases {
		checkFault(t, "counts", first+resize(c.items, c.expiries)+item, len(first), c.e)
		checkFault(t, "counts", first+resize(c.items, c.expiries), len(first), c.e)
	}
	for _, c := range [][2]int{{1, 0}, {1, 1}, {api.MaxKeys, 0}, {api.MaxKeys, api.MaxKeys}, {70, 64}} {
		s := first + resize(c[0], c[1])
		checkFault(t, "nothing behind", s, len(s), api.ErrShort)
	}
}

// TestDecodeExpiry: expiries that are cut or too great, and what stands behind them.
func TestDecodeExpiry(t *testing.T) {
	first := head + choose(0) + resize(1, 1)
	for _, first := range []string{first, first + due(1) + text("b", "")} {
		for n := range 8 {
			checkFault(t, "cut", first+due(1)[:1+n], len(first), api.ErrShort)
			checkFault(t, "cut, and too great", first+"\xfc"+strings.Repeat("\xff", n), len(first), api.ErrShort)
		}
		for _, at := range []uint64{1 << 53, 1<<53 + 5, 1 << 62, 1<<63 - 1, 1 << 63, 1<<63 + 5, 1<<64 - 1} {
			checkFault(t, "too great", first+"\xfc"+eightBytes(at)+text("a", ""), len(first), api.ErrForm)
			checkFault(t, "too great, and nothing behind", first+"\xfc"+eightBytes(at), len(first), api.ErrForm)
			checkFault(t, "too great, and no type behind", first+"\xfc"+eightBytes(at)+"\x01", len(first), api.ErrForm)
		}
		checkFault(t, "nothing behind", first+due(1), len(first), api.ErrShort)
		checkFault(t, "twice", first+due(1)+due(1)+text("a", ""), len(first), api.ErrOpcode)
		checkFault(t, "a type that is none", first+due(1)+"\x01\x01a\x00", len(first), api.ErrOpcode)
		for _, b := range "\x01\x05\x0c\x0f\x13\x15\x7f" {
			checkFault(t, "a type that is none", first+due(1)+string(b), len(first), api.ErrOpcode)
		}
	}
	for _, at := range []int{0, 1, 255, 256, 1 << 32, api.MaxNumber} {
		s := sealed(first + due(at) + text("a", ""))
		if got := checkFile(t, s); got.e != api.OK || got.image.Spaces[0].Items[0].Expiry != at {
			t.Errorf("expiry %d: %v, %d", at, got.image, got.e)
		}
	}
}

// TestDecodeKey: keys that are no texts, too long, or stand twice in their space, in whatever form.
func TestDecodeKey(t *testing.T) {
	space := head + choose(0) + resize(3, 1)
	for _, first := range []string{space, space + text("b", ""), space + due(1) + text("b", "")} {
		for _, f := range textFaults(api.MaxKey) {
			checkFault(t, "a key", first+"\x00"+f.s, len(first), f.e)
			checkFault(t, "a key behind an expiry", first+due(3)+"\x02"+f.s, len(first), f.e)
			if f.e != api.ErrShort {
				checkFault(t, "a key, and a body", first+"\x00"+f.s+"\xc4", len(first), f.e)
			}
		}
	}
	for _, most := range []int{api.MaxKey + 1, api.MaxElement, api.MaxElement + 1} {
		checkFault(t, "too long", space+"\x00"+plain(strings.Repeat("k", most))+"\x00", len(space), api.ErrLong)
		checkFault(t, "too long", space+"\x00"+codec.PutText(strings.Repeat("k", most), true)+"\x00", len(space), api.ErrLong)
	}
	long := strings.Repeat("k", api.MaxKey)
	for _, key := range []string{plain(long), codec.PutText(long, true)} {
		s := sealed(head + choose(0) + resize(1, 0) + "\x00" + key + "\x00")
		if got := checkFile(t, s); got.e != api.OK || got.image.Spaces[0].Items[0].Key != long {
			t.Errorf("error %d", got.e)
		}
	}
}

// TestDecodeTwice: a key that stands twice in its space, in each two of the forms in which it may be read.
func TestDecodeTwice(t *testing.T) {
	long := strings.Repeat("key ", 9)
	same := [][]string{
		{"\xc0\x0c", "\x0212", run("12")},
		{"\xc1\x2c\x01", "\x03300", run("300")},
		{plain(long), codec.PutText(long, true)},
		{"\x00", "\x00"},
		{"\x01a", run("a")},
	}
	for _, forms := range same {
		for _, a := range forms {
			for _, b := range forms {
				space := head + choose(0) + resize(2, 0) + "\x00" + a + "\x00"
				checkFault(t, "twice", sealed(space+"\x00"+b+"\x00"), len(space), api.ErrTwice)
				checkFault(t, "twice, with another value", space+"\x02"+b+"\x01\x01a", len(space), api.ErrTwice)
				checkFault(t, "twice, with an expiry", space+due(3)+"\x00"+b+"\x00", len(space), api.ErrTwice)
				checkFault(t, "twice, and a body that is none", space+"\x00"+b+"\xc4", len(space), api.ErrTwice)
				space = head + choose(0) + resize(1, 0) + "\x00" + a + "\x00" + choose(1) + resize(1, 0) + "\x00" + b + "\x00"
				checkFault(t, "in two spaces", sealed(space), len(sealed(space)), api.OK)
			}
		}
	}
	checkFault(t, "a longer length is no text", head+choose(0)+resize(2, 0)+text("a", "")+"\x00\x40\x01a\x00", len(head)+5+4, api.ErrForm)
	space := head + choose(0) + resize(3, 0) + text("a", "") + text("b", "")
	checkFault(t, "apart from each other", space+text("a", ""), len(space), api.ErrTwice)
	checkFault(t, "012 is not 12", sealed(space+text("012", "")), len(sealed(space+text("012", ""))), api.OK)
}

// TestDecodeBody: bodies that codec.Size refuses, of each type; what they hold is not looked at.
func TestDecodeBody(t *testing.T) {
	bodies := []string{"", "\x01", "\xc4", "\xc1\x00\x00", "\x82", "\xc3", length(codec.MaxBlob + 1), length(api.MaxCount + 1), "\x02\x01a", "\x01\x01", "\x02\x02\x00\x03", "\x01\x01a", "\x40\x01a", "\xc3\x01"}
	for _, first := range []string{head + choose(0) + resize(1, 0), head + choose(0) + resize(2, 1) + due(1) + text("b", "")} {
		for _, typ := range "\x00\x02\x03\x04\x0b\x10\x11\x12\x14" {
			for _, body := range bodies {
				if _, e := codec.Size(int(typ), body); e != api.OK {
					checkFault(t, fmt.Sprint("a body of type ", typ), first+string(typ)+"\x01a"+body, len(first), e)
				}
			}
		}
	}
	loose := []api.Item{
		{Key: "ints", Type: 11, Body: "\x03abc", Expiry: -1}, {Key: "pack", Type: 16, Body: "\x00", Expiry: 3}, {Key: "none", Type: 2, Body: "\x00", Expiry: -1},
		{Key: "nodes", Type: 18, Body: "\x00", Expiry: -1}, {Key: "not packed", Type: 0, Body: packed("\x00", 9), Expiry: -1}, {Key: "twice", Type: 2, Body: "\x02\x01a\x01a", Expiry: -1},
		{Key: "scores", Type: 3, Body: "\x01\x01a\x01b", Expiry: -1}, {Key: "long", Type: 0, Body: plain(strings.Repeat("x", api.MaxElement+1)), Expiry: -1},
	}
	for _, compress := range []bool{false, true} {
		if got := checkFile(t, encoded(t, one(loose...), compress)); got.e != api.OK || !same(got.image, one(loose...)) {
			t.Errorf("error %d", got.e)
		}
	}
}

// TestDecodeCounts: other numbers of items and expiries than the resize says, told ahead of FE and FF.
func TestDecodeCounts(t *testing.T) {
	ahead := head + aux("a", "b")
	full := choose(1) + resize(2, 1) + text("a", "") + due(1) + text("b", "")
	for _, first := range []string{ahead, ahead + full} {
		for items := range 4 {
			for expiries := range items + 1 {
				space, behind := first+choose(2)+resize(2, 1), ""
				for n := range items {
					if n < expiries {
						behind += due(n)
					}
					behind += text(fmt.Sprint(n), "")
				}
				at := len(first + choose(2))
				if items == 0 {
					checkFault(t, "no items", space+choose(3), len(space), api.ErrOpcode)
					checkFault(t, "no items", sealed(space), len(space), api.ErrOpcode)
					continue
				}
				if items == 2 && expiries == 1 {
					checkFault(t, "just so many", sealed(space+behind), len(sealed(space+behind)), api.OK)
					continue
				}
				for _, end := range []string{"\xff", "\xfe", "\xff12345678", "\xfe\x03", "\xfe\xc0", "\xfe\x02", "\xfe\x10", "\xfe\x03\xff"} {
					checkFault(t, fmt.Sprint(items, expiries, " ahead of ", end), space+behind+end, at, api.ErrForm)
				}
				checkFault(t, "ahead of the end", sealed(space+behind), at, api.ErrForm)
				checkFault(t, "ahead of nothing", space+behind, len(space+behind), api.ErrShort)
				checkFault(t, "ahead of a byte that is none", space+behind+"\xfa", len(space+behind), api.ErrOpcode)
				checkFault(t, "ahead of another resize", space+behind+"\xfb", len(space+behind), api.ErrOpcode)
				checkFault(t, "ahead of an item at fault", space+behind+"\x00\x82", len(space+behind), api.ErrForm)
			}
		}
	}
	checkFault(t, "the second space's is not the first one's", sealed(head+full+choose(2)+resize(1, 0)+text("a", "")+text("b", "")), len(head+full+choose(2)), api.ErrForm)
}

// TestDecodeMany: one item more than MaxKeys, in one space and over several.
func TestDecodeMany(t *testing.T) {
	var b strings.Builder
	for _, item := range texts(api.MaxKeys) {
		b.WriteString(text(item.Key, ""))
	}
	all := b.String()
	last := text(texts(api.MaxKeys)[api.MaxKeys-1].Key, "")
	space := head + choose(0) + resize(api.MaxKeys, 0) + all
	checkFault(t, "just MaxKeys", sealed(space), len(sealed(space)), api.OK)
	next := space + choose(1) + resize(1, 0)
	checkFault(t, "one more, in the next space", sealed(next+text("a", "")), len(next), api.ErrLong)
	checkFault(t, "one more, with an expiry", next+due(1)+text("a", ""), len(next), api.ErrLong)
	checkFault(t, "one more, with a body that is none", next+"\x00\x01a\xc4", len(next), api.ErrLong)
	checkFault(t, "one more, without a body", next+"\x00\x01a", len(next), api.ErrLong)
	checkFault(t, "one more, with a key that is cut", next+"\x00\x02a", len(next), api.ErrShort)
	checkFault(t, "one more, of a type that is none", next+"\x01\x01a", len(next), api.ErrOpcode)
	one := head + choose(0) + resize(1, 0) + all
	checkFault(t, "one more than MaxKeys, where one was told", one+text("a", ""), len(one), api.ErrLong)
	checkFault(t, "one more, that stands twice", one+last, len(one), api.ErrTwice)
	less := strings.TrimSuffix(all, last)
	space = head + choose(0) + resize(api.MaxKeys-1, 0) + less + choose(4) + resize(1, 0) + last
	checkFault(t, "MaxKeys over two spaces", sealed(space), len(sealed(space)), api.OK)
	next = space + choose(5) + resize(1, 1)
	checkFault(t, "one more over three spaces", next+due(1)+last, len(next), api.ErrLong)
	next = head + choose(0) + resize(api.MaxKeys-1, 0) + less + choose(4) + resize(2, 0) + last
	checkFault(t, "one more in the second of two spaces", sealed(next+text("a", "")), len(next), api.ErrLong)
}

// TestDecodeEnd: the end with fewer than eight bytes, another sum, and something behind it.
func TestDecodeEnd(t *testing.T) {
	for _, i := range samples() {
		s := refWrite(i, true)
		begin := len(s) - 9
		for n := range 8 {
			checkFault(t, "cut", s[:begin+1+n], begin, api.ErrShort)
			checkFault(t, "cut, and another sum", s[:begin+1]+strings.Repeat("\x00", n), begin, api.ErrShort)
		}
		for n := range 64 {
			b := []byte(s)
			b[begin+1+n/8] ^= 1 << (n % 8)
			checkFault(t, "another sum", string(b), begin, api.ErrSum)
			checkFault(t, "another sum, and something behind", string(b)+"\x00", begin, api.ErrSum)
		}
		for _, behind := range []string{"\x00", "x", "\xff", s, s[begin:], strings.Repeat("\x00", 8)} {
			checkFault(t, "something behind", s+behind, len(s), api.ErrBehind)
		}
	}
}
