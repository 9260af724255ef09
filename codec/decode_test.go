package codec

import (
	"math"
	"slices"
	"strings"
	"testing"

	"cistern/api"
	"cistern/value"
)

// TestDecodeSamples: each kind in each encoding, with the same thresholds and with others.
func TestDecodeSamples(t *testing.T) {
	for _, s := range samples() {
		v, e := Decode(s.typ, s.body, s.threshold)
		if e != api.OK || !same(v, s.v) {
			t.Errorf("%s: %d", s.name, e)
		}
		for _, th := range several {
			if v, e := Decode(s.typ, s.body, th); e != api.OK || !v.Equal(s.v) {
				t.Errorf("%s with %v: %d", s.name, th, e)
			}
		}
		if e := Checked(s.typ, s.body); e != api.OK {
			t.Errorf("%s: Checked %d", s.name, e)
		}
		for n := range len(s.body) {
			if v, e := Decode(s.typ, s.body[:n], middle); v != nil || e != api.ErrShort {
				t.Errorf("%s, %d bytes of it: %d", s.name, n, e)
			}
			if e := Checked(s.typ, s.body[:n]); e != api.ErrShort {
				t.Errorf("%s, %d bytes of it: Checked %d", s.name, n, e)
			}
		}
		for _, behind := range []string{"\x00", "\xff", s.body} {
			if v, e := Decode(s.typ, s.body+behind, middle); v != nil || e != api.ErrValue {
				t.Errorf("%s with %q behind: %d", s.name, behind, e)
			}
		}
	}
}

// TestDecodeThresholds: thresholds that may not be are refused ahead of all else.
func TestDecodeThresholds(t *testing.T) {
	fields := func(th *api.Thresholds) []*int {
		return []*int{&th.ListEntries, &th.ListBytes, &th.SetInts, &th.SetEntries, &th.SetBytes, &th.ZsetEntries, &th.ZsetBytes, &th.HashEntries, &th.HashBytes}
	}
	for i := range fields(&api.Thresholds{}) {
		for _, n := range []int{-1, 4097, api.MaxCount + 1, math.MinInt, math.MaxInt} {
			th := middle
			*fields(&th)[i] = n
			want := value.Check(th)
			for _, s := range samples() {
				v, e := Decode(s.typ, s.body, th)
				if e != want || (v == nil) != (want != api.OK) {
					t.Errorf("%s, threshold %d of %d: %d; want %d", s.name, i, n, e, want)
				}
			}
			if want == api.OK {
				continue
			}
			for _, bad := range []faulty{{s: ""}, {s: "\xff"}, {s: "\x00"}, {s: length(MaxBlob + 1)}} {
				for _, typ := range []int{0, 2, 18, 99, -1} {
					if v, e := Decode(typ, bad.s, th); v != nil || e != api.ErrArg {
						t.Errorf("Decode(%d, %q) with a threshold of %d: %d", typ, bad.s, n, e)
					}
				}
			}
		}
	}
	if v, e := Decode(0, "\x00", api.Thresholds{}); v != nil || e != api.ErrArg {
		t.Errorf("zero thresholds: %d", e)
	}
}

// refused is what Decode refuses, and for what.
type refused struct {
	name string
	typ  int
	body string
	want api.Errno
}

// checkRefused: whatever the thresholds are, and by Checked.
func checkRefused(t *testing.T, cases []refused) {
	t.Helper()
	for _, c := range cases {
		for _, th := range several {
			if v, e := Decode(c.typ, c.body, th); v != nil || e != c.want {
				t.Errorf("%s: Decode(%d, %s) = %v, %d; want %d", c.name, c.typ, short(c.body), v, e, c.want)
			}
		}
		if e := Checked(c.typ, c.body); e != c.want {
			t.Errorf("%s: Checked(%d, %s) = %d; want %d", c.name, c.typ, short(c.body), e, c.want)
		}
	}
}

// TestDecodeForm: the errors of Size.
func TestDecodeForm(t *testing.T) {
	checkRefused(t, []refused{
		{"a type that is none", 99, "", api.ErrOpcode},
		{"a type between", 1, "\x00", api.ErrOpcode},
		{"a type below 0", -1, "\x00", api.ErrOpcode},
		{"nothing", 0, "", api.ErrShort},
		{"no text", 0, "\xff", api.ErrForm},
		{"too long", 0, length(MaxBlob + 1), api.ErrLong},
		{"no count", 2, "", api.ErrShort},
		{"a count that is none", 3, "\xc0\x00", api.ErrForm},
		{"too many", 4, length(api.MaxCount + 1), api.ErrLong},
		{"a node's first byte", 18, "\x01\x01\x00", api.ErrForm},
		{"too few texts", 4, "\x01\x01a", api.ErrShort},
	})
}

// TestDecodeTexts: texts that cannot be unpacked, and texts that are too long.
func TestDecodeTexts(t *testing.T) {
	long := plain(strings.Repeat("x", api.MaxElement+1))
	for _, bad := range []faulty{
		{"a reference ahead", packed("\x20\x00", 3), api.ErrRef},
		{"less comes out", packed("\x00a", 2), api.ErrSize},
		{"N of 0", packed("\x00a", 0), api.ErrSize},
		{"a run that ends", packed("\x05a", 6), api.ErrShort},
		{"N above MaxElement", packed("\x00a", api.MaxElement+1), api.ErrLong},
		{"N of MaxBlob", packed("\x00a", MaxBlob), api.ErrLong},
		{"N above MaxElement that comes out", packed(runs(unlike(api.MaxElement+1)), api.MaxElement+1), api.ErrLong},
	} {
		for _, typ := range []int{0, 11, 16, 17, 20} {
			checkRefused(t, []refused{{bad.name, typ, bad.s, bad.want}})
		}
		checkRefused(t, []refused{
			{bad.name + ", a member", 2, "\x01" + bad.s, bad.want},
			{bad.name + ", the second member", 2, "\x02\x01a" + bad.s, bad.want},
			{bad.name + ", a scored member", 3, "\x01" + bad.s + "\xc0\x00", bad.want},
			{bad.name + ", a score", 3, "\x01\x01a" + bad.s, bad.want},
			{bad.name + ", a name", 4, "\x01" + bad.s + "\x00", bad.want},
			{bad.name + ", a field's value", 4, "\x01\x00" + bad.s, bad.want},
			{bad.name + ", a node", 18, "\x01\x02" + bad.s, bad.want},
			{bad.name + ", the second node", 18, "\x02\x02" + plain(pack("a")) + "\x02" + bad.s, bad.want},
		})
	}
	checkRefused(t, []refused{
		{"a long string", 0, long, api.ErrLong},
		{"a long member", 2, "\x01" + long, api.ErrLong},
		{"a long scored member", 3, "\x01" + long + "\xc0\x00", api.ErrLong},
		{"a long score", 3, "\x01\x01a" + long, api.ErrLong},
		{"a long name", 4, "\x01" + long + "\x00", api.ErrLong},
		{"a long field's value", 4, "\x01\x00" + long, api.ErrLong},
		{"a string of MaxBlob bytes", 0, plain(strings.Repeat("x", MaxBlob)), api.ErrLong},
		{"a long text that is no intset", 11, long, api.ErrValue},
		{"a long text that is no listpack", 20, long, api.ErrValue},
	})
}

// TestDecodeContents: what value.Load refuses, and values without elements.
func TestDecodeContents(t *testing.T) {
	checkRefused(t, []refused{
		{"no members", 2, "\x00", api.ErrValue},
		{"no scored members", 3, "\x00", api.ErrValue},
		{"no fields", 4, "\x00", api.ErrValue},
		{"no nodes", 18, "\x00", api.ErrValue},
		{"an empty intset", 11, plain(ints()), api.ErrValue},
		{"an empty listpack of a hash", 16, plain(pack()), api.ErrValue},
		{"an empty listpack of a sorted set", 17, plain(pack()), api.ErrValue},
		{"an empty listpack of a set", 20, plain(pack()), api.ErrValue},
		{"an empty node", 18, "\x01\x02" + plain(pack()), api.ErrValue},
		{"an empty node among others", 18, "\x02\x02" + plain(pack("a")) + "\x02" + plain(pack()), api.ErrValue},
		{"members out of order", 2, "\x02\x01b\x01a", api.ErrValue},
		{"a member twice", 2, "\x02\x01a\x01a", api.ErrValue},
		{"a member twice, once as a number", 2, "\x02\xc0\x01\x011", api.ErrValue},
		{"members by number, not by bytes", 2, "\x02\xc0\x09\xc0\x0a", api.ErrValue},
		{"scores out of order", 3, "\x02\x01a\xc0\x02\x01b\xc0\x01", api.ErrValue},
		{"members of one score out of order", 3, "\x02\x01b\xc0\x01\x01a\xc0\x01", api.ErrValue},
		{"a scored member twice", 3, "\x02\x01a\xc0\x01\x01a\xc0\x02", api.ErrValue},
		{"a score that is no number", 3, "\x01\x01a\x01b", api.ErrValue},
		{"an empty score", 3, "\x01\x01a\x00", api.ErrValue},
		{"a score with a needless 0", 3, "\x01\x01a\x0201", api.ErrValue},
		{"a score with a point", 3, "\x01\x01a\x031.5", api.ErrValue},
		{"a score above MaxNumber", 3, "\x01\x01a\x109007199254740992", api.ErrValue},
		{"a score below -MaxNumber", 3, "\x01\x01a\x11-9007199254740992", api.ErrValue},
		{"names out of order", 4, "\x02\x01b\x00\x01a\x00", api.ErrValue},
		{"a name twice", 4, "\x02\x01a\x00\x01a\x01b", api.ErrValue},
		{"no intset", 11, "\x03abc", api.ErrValue},
		{"an intset as a number", 11, "\xc0\x01", api.ErrValue},
		{"the empty text as an intset", 11, "\x00", api.ErrValue},
		{"an intset that does not rise", 11, "\x0c\x02\x00\x00\x00\x02\x00\x00\x00\x02\x00\x01\x00", api.ErrValue},
		{"a number twice", 11, "\x0c\x02\x00\x00\x00\x02\x00\x00\x00\x01\x00\x01\x00", api.ErrValue},
		{"an intset of a wrong width", 11, "\x0c\x03\x00\x00\x00\x02\x00\x00\x00\x01\x00\x02\x00", api.ErrValue},
		{"an intset that ends", 11, plain(ints(1, 2)[:11]), api.ErrValue},
		{"a listpack as an intset", 11, plain(pack("1")), api.ErrValue},
		{"an intset as a listpack", 20, plain(ints(1)), api.ErrValue},
		{"no listpack", 20, "\x03abc", api.ErrValue},
		{"a listpack that ends", 20, plain(pack("a", "b")[:10]), api.ErrValue},
		{"a listpack and a byte", 20, plain(pack("a") + "\xff"), api.ErrValue},
		{"a number as a text", 20, "\x0a\x0a\x00\x00\x00\x01\x00\x811\x02\xff", api.ErrValue},
		{"a set's member twice", 20, plain(pack("a", "b", "a")), api.ErrValue},
		{"a hash of an odd number of entries", 16, plain(pack("a", "b", "c")), api.ErrValue},
		{"a hash of one entry", 16, plain(pack("a")), api.ErrValue},
		{"a hash's name twice", 16, plain(pack("a", "b", "a", "c")), api.ErrValue},
		{"a hash of no listpack", 16, "\x03abc", api.ErrValue},
		{"a sorted set of an odd number of entries", 17, plain(pack("a", "1", "b")), api.ErrValue},
		{"a sorted set's member twice", 17, plain(pack("a", "1", "a", "2")), api.ErrValue},
		{"a sorted set out of order", 17, plain(pack("a", "2", "b", "1")), api.ErrValue},
		{"a sorted set without a score", 17, plain(pack("a", "b")), api.ErrValue},
		{"a sorted set's score too great", 17, plain(pack("a", "9007199254740992")), api.ErrValue},
		{"a sorted set of no listpack", 17, "\x03abc", api.ErrValue},
		{"a node that is no listpack", 18, "\x01\x02\x03abc", api.ErrValue},
		{"a second node that is no listpack", 18, "\x02\x02" + plain(pack("a")) + "\x02\x03abc", api.ErrValue},
		{"a node that is an intset", 18, "\x01\x02" + plain(ints(1)), api.ErrValue},
		{"a node that is an empty text", 18, "\x01\x02\x00", api.ErrValue},
		{"bytes behind", 0, "\x00\x00", api.ErrValue},
		{"bytes behind no members", 2, "\x00\x00", api.ErrValue},
	})
}

// TestDecodeOrder: of two faults the one that comes first by CO4 counts, wherever it stands.
func TestDecodeOrder(t *testing.T) {
	long := plain(strings.Repeat("x", api.MaxElement+1))
	ref, size := packed("\x20\x00", 3), packed("\x00a", 2)
	checkRefused(t, []refused{
		{"no type, and no bytes", 1, "", api.ErrOpcode},
		{"no type, and no text", 5, "\xff", api.ErrOpcode},
		{"not unpacked, and too short", 2, "\x02" + ref, api.ErrShort},
		{"not unpacked, and no text behind", 2, "\x02" + ref + "\xff", api.ErrForm},
		{"not unpacked, and a text that is too long behind", 2, "\x02" + ref + length(MaxBlob+1), api.ErrLong},
		{"not unpacked, and bytes behind", 2, "\x01" + ref + "\x00", api.ErrValue},
		{"a string not unpacked, and bytes behind", 0, ref + "\x00", api.ErrValue},
		{"a node not unpacked, and bytes behind", 18, "\x01\x02" + ref + "\x00", api.ErrValue},
		{"a long text, and too short", 2, "\x02" + long, api.ErrShort},
		{"a long text, and bytes behind", 2, "\x01" + long + "\x00", api.ErrValue},
		{"a long string, and bytes behind", 0, long + "\x00", api.ErrValue},
		{"a long text, and one not unpacked", 2, "\x02" + long + ref, api.ErrRef},
		{"a long name, and a value not unpacked", 4, "\x01" + long + size, api.ErrSize},
		{"a long member, and a score not unpacked", 3, "\x01" + long + size, api.ErrSize},
		{"two not unpacked", 2, "\x02" + ref + size, api.ErrRef},
		{"two not unpacked, the other way", 2, "\x02" + size + ref, api.ErrSize},
		{"out of order, and one not unpacked", 2, "\x03\x01b\x01a" + ref, api.ErrRef},
		{"out of order, and a long text", 2, "\x03\x01b\x01a" + long, api.ErrLong},
		{"no score, and a long member", 3, "\x02\x01a\x01b" + long + "\xc0\x00", api.ErrLong},
		{"a name twice, and a long value", 4, "\x02\x01a\x00\x01a" + long, api.ErrLong},
		{"no listpack, and one not unpacked", 18, "\x02\x02\x03abc\x02" + ref, api.ErrRef},
		{"no listpack, and bytes behind", 20, "\x03abc\x00", api.ErrValue},
		{"no listpack, and another node's first byte", 18, "\x02\x02\x03abc\x03\x00", api.ErrForm},
		{"an empty count, and bytes that are no text", 2, "\x00\xff", api.ErrValue},
	})
}

// TestDecodeText: strings of each length, in any form.
func TestDecodeText(t *testing.T) {
	for _, s := range someTexts() {
		forms := []string{PutText(s, false), PutText(s, true), plain(s)}
		if s != "" {
			forms = append(forms, packed(runs(s), len(s)))
		}
		for _, body := range forms {
			v, e := Decode(0, body, middle)
			if e != api.OK || !same(v, textValue(middle, s)) {
				t.Errorf("%s from %s: %d", short(s), short(body), e)
			}
		}
	}
}

// TestDecodeOtherForms: texts may be written in any way that Text takes.
func TestDecodeOtherForms(t *testing.T) {
	p, q := pack("a", "1"), pack("b")
	cases := []struct {
		typ  int
		body string
		want *value.Value
	}{
		{2, "\x03\x0212" + packed("\x00a", 1) + "\x01b", setValue(least, "12", "a", "b")},
		{3, "\x02\x01a\x02-5" + "\x01b" + packed("\x00\x37", 1), zsetValue(least, "a", "-5", "b", "7")},
		{4, "\x01" + packed("\x00n", 1) + "\x017", hashValue(least, "n", "7")},
		{11, packed(runs(ints(1, 2)), 12), setValue(middle, "1", "2")},
		{16, packed(runs(p), len(p)), hashValue(middle, "a", "1")},
		{17, packed(runs(p), len(p)), zsetValue(middle, "a", "1")},
		{18, "\x02\x02" + packed(runs(p), len(p)) + "\x02" + packed(runs(q), len(q)), listValue(most, "a", "1", "b")},
		{20, packed(runs(p), len(p)), setValue(middle, "a", "1")},
	}
	for _, c := range cases {
		for _, th := range several {
			if v, e := Decode(c.typ, c.body, th); e != api.OK || !v.Equal(c.want) {
				t.Errorf("Decode(%d, %q) = %d", c.typ, c.body, e)
			}
		}
	}
}

// TestDecodeMaxBlob: a blob of MaxBlob bytes, of more elements than stay compact, is taken; one more byte is too long.
func TestDecodeMaxBlob(t *testing.T) {
	texts := packTexts(MaxBlob)
	blob := pack(texts...)
	if len(blob) != MaxBlob {
		t.Fatalf("%d bytes", len(blob))
	}
	v, e := Decode(20, plain(blob), most)
	if e != api.OK || v.Encoding() != "hashtable" || v.Len() != len(texts) {
		t.Fatalf("MaxBlob bytes: %d", e)
	}
	members, _ := v.Members()
	slices.Sort(texts)
	if !slices.Equal(members, texts) {
		t.Error("MaxBlob bytes: other members")
	}
	if n, e := Size(20, plain(blob)); n != 5+MaxBlob || e != api.OK {
		t.Errorf("MaxBlob bytes: Size %d, %d", n, e)
	}
	for _, typ := range []int{11, 16, 17, 20} {
		if v, e := Decode(typ, plain(blob+"\xff"), most); v != nil || e != api.ErrLong {
			t.Errorf("type %d, one byte more: %d", typ, e)
		}
	}
	if v, e := Decode(18, "\x01\x02"+plain(blob+"\xff"), most); v != nil || e != api.ErrLong {
		t.Errorf("a node of one byte more: %d", e)
	}
}

// TestDecodeMaxElement: members, names, values and strings of MaxElement bytes are taken.
func TestDecodeMaxElement(t *testing.T) {
	s := strings.Repeat("y", api.MaxElement)
	for _, th := range several {
		for typ, body := range map[int]string{0: plain(s), 2: "\x02\x01x" + plain(s), 3: "\x01" + plain(s) + "\xc0\x00", 4: "\x01" + plain(s) + plain(s), 16: plain(pack(s, s)), 17: plain(pack(s, "1")), 18: "\x01\x02" + plain(pack(s)), 20: plain(pack("x", s))} {
			v, e := Decode(typ, body, th)
			if e != api.OK {
				t.Errorf("type %d: %d", typ, e)
				continue
			}
			checkSound(t, v, typ, th)
		}
	}
}

// TestDecodeMaxCount: MaxCount elements are taken, one more is none.
func TestDecodeMaxCount(t *testing.T) {
	names := counted(api.MaxCount, 7)
	one, two := strings.Builder{}, strings.Builder{}
	for _, s := range names {
		one.WriteString(plain(s))
		two.WriteString(plain(s) + "\xc0\x00")
	}
	for typ, texts := range map[int]string{2: one.String(), 3: two.String(), 4: two.String()} {
		v, e := Decode(typ, length(api.MaxCount)+texts, middle)
		if e != api.OK || v.Len() != api.MaxCount {
			t.Fatalf("type %d: %d", typ, e)
		}
		if again, body, e := Encode(v, false); again != typ || body != length(api.MaxCount)+texts || e != api.OK {
			t.Errorf("type %d: Encode again: %d, %s, %d", typ, again, short(body), e)
		}
		if v, e := Decode(typ, length(api.MaxCount+1)+texts+texts[:9], middle); v != nil || e != api.ErrLong {
			t.Errorf("type %d, one more: %d", typ, e)
		}
	}
}

// TestChecked: with the greatest thresholds what Decode says.
func TestChecked(t *testing.T) {
	for _, c := range []refused{
		{"a string", 0, "\x01a", api.OK},
		{"the examples' empty set", 2, "\x00", api.ErrValue},
		{"no type", 99, "..", api.ErrOpcode},
		{"a set of 5000", 20, plain(pack(counted(5000, 7)...)), api.OK},
		{"a node of 4096", 18, "\x01\x02" + plain(pack(counted(4096, 7)...)), api.OK},
		{"a node of 4097", 18, "\x01\x02" + plain(pack(counted(4097, 7)...)), api.ErrValue},
		{"a node with an element of 4096 bytes", 18, "\x01\x02" + plain(pack(counted(2, 4096)...)), api.OK},
		{"a node with a large element", 18, "\x01\x02" + plain(pack(counted(2, 4097)...)), api.ErrValue},
		{"a node of a large element", 18, "\x01\x02" + plain(pack(counted(1, 4097)...)), api.OK},
	} {
		if e := Checked(c.typ, c.body); e != c.want {
			t.Errorf("%s: %d; want %d", c.name, e, c.want)
		}
	}
}

// TestExampleValues: the chapter's examples.
func TestExampleValues(t *testing.T) {
	v := setValue(middle, "1", "2")
	typ, body, e := Encode(v, true)
	if typ != 11 || body != "\x0c\x02\x00\x00\x00\x02\x00\x00\x00\x01\x00\x02\x00" || e != api.OK {
		t.Errorf("Encode: %d, %q, %d", typ, body, e)
	}
	if w, e := Decode(2, "\x00", middle); w != nil || e != api.ErrValue {
		t.Errorf("Decode(2, 00): %d", e)
	}
	if w, e := Decode(99, "..", middle); w != nil || e != api.ErrOpcode {
		t.Errorf("Decode(99, ..): %d", e)
	}
}
