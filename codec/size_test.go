package codec

import (
	"math"
	"strings"
	"testing"

	"cistern/api"
)

// TestSizeSamples: each type with anything behind it, and each beginning of it.
func TestSizeSamples(t *testing.T) {
	for _, s := range samples() {
		for _, compress := range []bool{false, true} {
			typ, body, _ := Encode(s.v, compress)
			for _, behind := range []string{"", "\x00", "\xff", "\x02\x01", body} {
				if n, e := Size(typ, body+behind); n != len(body) || e != api.OK {
					t.Errorf("%s with %q behind: %d, %d; want %d", s.name, behind, n, e, len(body))
				}
			}
			for n := range len(body) {
				if got, e := Size(typ, body[:n]); got != 0 || e != api.ErrShort {
					t.Errorf("%s, %d bytes of it: %d, %d", s.name, n, got, e)
				}
			}
		}
	}
}

// TestSizeOpcode: types that are none, whatever the bytes are.
func TestSizeOpcode(t *testing.T) {
	for typ := -3; typ < 300; typ++ {
		_, is := rowOf(typ)
		for _, s := range []string{"", "\x00", "\xff", "\x01\x02\x00"} {
			if n, e := Size(typ, s); (e == api.ErrOpcode) == is || e == api.ErrOpcode && n != 0 {
				t.Errorf("Size(%d, %q) = %d, %d", typ, s, n, e)
			}
		}
	}
	for _, typ := range []int{math.MinInt, math.MaxInt, 1<<32 + 2, -2, 256, 258} {
		if n, e := Size(typ, "\x00"); n != 0 || e != api.ErrOpcode {
			t.Errorf("Size(%d) = %d, %d", typ, n, e)
		}
	}
}

// sized is what Size answers of bytes of a type.
type sized struct {
	name string
	typ  int
	s    string
	n    int
	want api.Errno
}

func checkSizes(t *testing.T, cases []sized) {
	t.Helper()
	for _, c := range cases {
		if n, e := Size(c.typ, c.s); n != c.n || e != c.want {
			t.Errorf("%s: Size(%d, %s) = %d, %d; want %d, %d", c.name, c.typ, short(c.s), n, e, c.n, c.want)
		}
	}
}

// TestSizeCounts: counts of 0, at MaxCount and above, and counts that are no lengths.
func TestSizeCounts(t *testing.T) {
	full := map[int]string{
		2:  strings.Repeat("\x00", api.MaxCount+1),
		3:  strings.Repeat("\x00\x00", api.MaxCount+1),
		4:  strings.Repeat("\x00\x00", api.MaxCount+1),
		18: strings.Repeat("\x02\x00", api.MaxCount+1),
	}
	for typ, texts := range full {
		one := len(texts) / (api.MaxCount + 1)
		checkSizes(t, []sized{
			{"no count", typ, "", 0, api.ErrShort},
			{"0", typ, "\x00", 1, api.OK},
			{"0 and more", typ, "\x00\xff\xff", 1, api.OK},
			{"1", typ, "\x01" + texts[:one], 1 + one, api.OK},
			{"1, and nothing", typ, "\x01", 0, api.ErrShort},
			{"MaxCount", typ, length(api.MaxCount) + texts, 5 + one*api.MaxCount, api.OK},
			{"MaxCount, one byte missing", typ, length(api.MaxCount) + texts[:one*api.MaxCount-1], 0, api.ErrShort},
			{"MaxCount, and nothing", typ, length(api.MaxCount), 0, api.ErrShort},
			{"one more", typ, length(api.MaxCount+1) + texts, 0, api.ErrLong},
			{"one more, and nothing", typ, length(api.MaxCount + 1), 0, api.ErrLong},
			{"one more, and no text", typ, length(api.MaxCount+1) + "\xff\xff", 0, api.ErrLong},
			{"the greatest", typ, length(1 << 62), 0, api.ErrLong},
			{"special", typ, "\xc0\x01" + texts, 0, api.ErrForm},
			{"special, packed", typ, "\xc3\x01\x01\x00" + texts, 0, api.ErrForm},
			{"no length", typ, "\x90" + texts, 0, api.ErrForm},
			{"a longer form", typ, "\x40\x01" + texts, 0, api.ErrForm},
			{"a longer form of too many", typ, "\x81" + high(api.MaxCount+1, 8), 0, api.ErrForm},
			{"a length that ends", typ, "\x80\x00", 0, api.ErrShort},
		})
	}
}

// TestSizeNodes: the byte ahead of each node.
func TestSizeNodes(t *testing.T) {
	for first := range 256 {
		if first == 2 {
			continue
		}
		b := string([]byte{byte(first)})
		checkSizes(t, []sized{
			{"the first node", 18, "\x01" + b + "\x00", 0, api.ErrForm},
			{"the first node, and nothing", 18, "\x01" + b, 0, api.ErrForm},
			{"the second node", 18, "\x02\x02\x01a" + b + "\x00", 0, api.ErrForm},
			{"behind the last node", 18, "\x01\x02\x01a" + b, 4, api.OK},
		})
	}
	checkSizes(t, []sized{
		{"a node that is only begun", 18, "\x01\x02", 0, api.ErrShort},
		{"no second node", 18, "\x02\x02\x01a", 0, api.ErrShort},
		{"a node's text is none", 18, "\x01\x02\xff", 0, api.ErrForm},
		{"a first node's text ahead of a second node's byte", 18, "\x02\x02\xff\x01", 0, api.ErrForm},
		{"a first node's text too long", 18, "\x02\x02" + length(MaxBlob+1), 0, api.ErrLong},
	})
}

// TestSizeTexts: texts by their form alone: packed ones are not unpacked, and what they hold is not asked.
func TestSizeTexts(t *testing.T) {
	ref, none, over := packed("\x20\x00", 3), packed("\x00a", 0), packed("\x00a", MaxBlob)
	for _, typ := range []int{0, 11, 16, 17, 20} {
		checkSizes(t, []sized{
			{"a reference ahead", typ, ref + "..", len(ref), api.OK},
			{"N of 0", typ, none, len(none), api.OK},
			{"N of MaxBlob", typ, over, len(over), api.OK},
			{"N of one more", typ, packed("\x00a", MaxBlob+1), 0, api.ErrLong},
			{"P of MaxBlob, missing", typ, "\xc3" + length(MaxBlob) + "\x01", 0, api.ErrShort},
			{"P of one more", typ, "\xc3" + length(MaxBlob+1) + "\x01", 0, api.ErrLong},
			{"N missing", typ, "\xc3\x01", 0, api.ErrShort},
			{"N special", typ, "\xc3\x01\xc0\x00", 0, api.ErrForm},
			{"a number", typ, "\xc1\x2c\x01x", 3, api.OK},
			{"a number in a longer form", typ, "\xc1\x2c\x00x", 0, api.ErrForm},
			{"no blob", typ, "\x03abc", 4, api.OK},
			{"above MaxElement", typ, plain(strings.Repeat("x", api.MaxElement+1)), 5 + api.MaxElement + 1, api.OK},
			{"MaxBlob", typ, plain(strings.Repeat("x", MaxBlob)), 5 + MaxBlob, api.OK},
			{"one more", typ, length(MaxBlob + 1), 0, api.ErrLong},
			{"MaxBlob, missing", typ, length(MaxBlob), 0, api.ErrShort},
			{"no text", typ, "\xff", 0, api.ErrForm},
		})
	}
	checkSizes(t, []sized{
		{"members twice, out of order", 2, "\x03\x01b\x01a\x01a", 7, api.OK},
		{"no scores", 3, "\x01\x01a\x01b", 5, api.OK},
		{"packed members", 2, "\x02" + ref + none, 1 + len(ref) + len(none), api.OK},
		{"packed nodes", 18, "\x02\x02" + ref + "\x02" + over, 3 + len(ref) + len(over), api.OK},
		{"a hash that ends behind a name", 4, "\x01\x01a", 0, api.ErrShort},
		{"a sorted set that ends behind a member", 3, "\x02\x01a\xc0\x01\x01b", 0, api.ErrShort},
		{"the second text is none", 2, "\x02\x01a\xff", 0, api.ErrForm},
		{"the second text is too long", 2, "\x02\x01a" + length(MaxBlob+1), 0, api.ErrLong},
		{"the first fault counts: too long, then none", 2, "\x02" + length(MaxBlob+1) + "\xff", 0, api.ErrLong},
		{"the first fault counts: none, then too long", 4, "\x02\xff" + length(MaxBlob+1), 0, api.ErrForm},
	})
}
