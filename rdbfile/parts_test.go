package rdbfile

import (
	"slices"
	"testing"

	"cistern/api"
	"cistern/codec"
)

// TestParts: what is told of a file's items: where they begin (with FC, if it is there), their sizes, spaces, types and keys.
func TestParts(t *testing.T) {
	s := head + aux("n", "v") + choose(2) + resize(3, 1)
	at := len(s)
	s += text("a", "b") + due(7) + "\x02\x01s\x02\x01x\x01y" + "\x00\xc0\x0c\x00" + choose(9) + resize(1, 1) + due(0) + text("", "")
	whole := sealed(s)
	want := []api.Finding{
		{At: at, Size: 5, Space: 2, Type: 0, Key: "a"},
		{At: at + 5, Size: 17, Space: 2, Type: 2, Key: "s"},
		{At: at + 22, Size: 4, Space: 2, Type: 0, Key: "12"},
		{At: at + 31, Size: 12, Space: 9, Type: 0, Key: ""},
	}
	if list, n, e := Parts(whole); !slices.Equal(list, want) || n != len(whole) || e != api.OK {
		t.Fatalf("%+v at %d error %d", list, n, e)
	}
	cases := []struct {
		s    string
		many int
		at   int
		e    api.Errno
	}{
		{"", 0, 0, api.ErrShort},
		{whole[:at], 0, at, api.ErrShort},
		{whole[:at+4], 0, at, api.ErrShort},
		{whole[:at+5], 1, at + 5, api.ErrShort},
		{whole[:at+21], 1, at + 5, api.ErrShort},
		{whole[:at+22], 2, at + 22, api.ErrShort},
		{whole[:at+5] + "\xfa", 1, at + 5, api.ErrOpcode},
		{whole[:at+5] + text("a", ""), 1, at + 5, api.ErrTwice},
		{whole[:at+22] + choose(9), 2, at - 3, api.ErrForm},
		{whole[:at+26] + choose(2), 3, at + 26, api.ErrTwice},
		{sealed(whole[:at+26] + choose(9) + resize(2, 1) + text("", "")), 4, at + 28, api.ErrForm},
		{s + "\xff", 4, len(s), api.ErrShort},
		{s + "\xff12345678", 4, len(s), api.ErrSum},
		{whole + "x", 4, len(whole), api.ErrBehind},
	}
	for n, c := range cases {
		list, at, e := Parts(c.s)
		if at != c.at || e != c.e || len(list) != c.many {
			t.Errorf("%d: %+v at %d error %d; want %d at %d error %d", n, list, at, e, c.many, c.at, c.e)
		}
		for i, f := range list {
			if i < 3 && f != want[i] {
				t.Errorf("%d: %+v; want %+v", n, f, want[i])
			}
		}
		if i, at, e := Decode(c.s); !same(i, api.Image{}) || at != c.at || e != c.e {
			t.Errorf("%d: Decode: %v at %d error %d", n, i, at, e)
		}
	}
}

// TestPartsWhole: of a file that is one all items are told, and the bytes there are theirs.
func TestPartsWhole(t *testing.T) {
	m := mix(4)
	for range 1000 {
		i := someImage(&m)
		s := encoded(t, i, m.below(2) == 0)
		list, at, e := Parts(s)
		if at != len(s) || e != api.OK {
			t.Fatalf("%d at %d", e, at)
		}
		for _, space := range i.Spaces {
			for _, item := range space.Items {
				f := list[0]
				list = list[1:]
				bytes := s[f.At : f.At+f.Size]
				if item.Expiry >= 0 {
					if bytes[:9] != due(item.Expiry) {
						t.Fatalf("%+v: %q", f, bytes)
					}
					bytes = bytes[9:]
				}
				key, size, _ := codec.Text(bytes[1:])
				if f.Space != space.Index || f.Type != item.Type || f.Key != item.Key || f.Err != api.OK || key != item.Key || int(bytes[0]) != item.Type || bytes[1+size:] != item.Body {
					t.Fatalf("%+v: %q; want %+v", f, bytes, item)
				}
			}
		}
		if len(list) > 0 {
			t.Fatalf("more: %+v", list)
		}
	}
}
