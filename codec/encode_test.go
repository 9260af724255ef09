package codec

import (
	"math"
	"strings"
	"testing"

	"cistern/api"
	"cistern/lzf"
	"cistern/value"
)

// TestEncodeSamples: the type and the bytes of each kind in each encoding.
func TestEncodeSamples(t *testing.T) {
	seen := map[string]int{}
	for _, s := range samples() {
		if s.v.Encoding() != s.encoding {
			t.Fatalf("%s is %s", s.name, s.v.Encoding())
		}
		seen[s.encoding]++
		if typ, body, e := Encode(s.v, false); typ != s.typ || body != s.body || e != api.OK {
			t.Errorf("%s: %d, %q, %d; want %d, %q", s.name, typ, body, e, s.typ, s.body)
		}
		if Kind(s.typ) != s.v.Kind() {
			t.Errorf("%s: type %d is of kind %d", s.name, s.typ, Kind(s.typ))
		}
	}
	if len(seen) != 8 {
		t.Errorf("encodings: %v", seen)
	}
}

// TestEncodeCompress: with compress just those texts and blobs of more than 20 bytes are packed in which lzf.Pack finds something.
func TestEncodeCompress(t *testing.T) {
	long, few := strings.Repeat("a", 30), strings.Repeat("a", 20)
	squeezed := func(s string) string {
		p, ok := lzf.Pack(s)
		if !ok {
			t.Fatalf("%q is not packed", s)
		}
		return packed(p, len(s))
	}
	wide := middle
	wide.SetBytes, wide.HashBytes, wide.ZsetBytes = 99, 99, 99
	cases := []struct {
		name       string
		v          *value.Value
		typ        int
		body, tiny string
	}{
		{"a text", textValue(middle, long), 0, plain(long), squeezed(long)},
		{"a text of 20 bytes", textValue(middle, few), 0, plain(few), plain(few)},
		{"a set", setValue(least, long, few, "1"), 2, "\x03\xc0\x01" + plain(few) + plain(long), "\x03\xc0\x01" + plain(few) + squeezed(long)},
		{"a sorted set", zsetValue(least, long, "1", "b", "1"), 3, "\x02" + plain(long) + "\xc0\x01\x01b\xc0\x01", "\x02" + squeezed(long) + "\xc0\x01\x01b\xc0\x01"},
		{"a hash", hashValue(least, "f", long, long, "f"), 4, "\x02" + plain(long) + "\x01f\x01f" + plain(long), "\x02" + squeezed(long) + "\x01f\x01f" + squeezed(long)},
		{"an intset", setValue(middle, "1", "2", "3", "4"), 11, plain(ints(1, 2, 3, 4)), plain(ints(1, 2, 3, 4))},
		{"an intset of wide numbers", setValue(middle, "1", "2", "3", "9223372036854775807"), 11, plain(ints(1, 2, 3, math.MaxInt)), squeezed(ints(1, 2, 3, math.MaxInt))},
		{"a set's listpack", setValue(wide, "b", long), 20, plain(pack("b", long)), squeezed(pack("b", long))},
		{"a hash's listpack", hashValue(wide, "b", long), 16, plain(pack("b", long)), squeezed(pack("b", long))},
		{"a sorted set's listpack", zsetValue(wide, long, "5"), 17, plain(pack(long, "5")), squeezed(pack(long, "5"))},
		{"a list", listValue(middle, long, "b", "c", "d", "e"), 18, "\x02\x02" + plain(pack(long, "b", "c", "d")) + "\x02" + plain(pack("e")), "\x02\x02" + squeezed(pack(long, "b", "c", "d")) + "\x02" + plain(pack("e"))},
	}
	for _, c := range cases {
		if typ, body, e := Encode(c.v, false); typ != c.typ || body != c.body || e != api.OK {
			t.Errorf("%s: %d, %q, %d; want %d, %q", c.name, typ, body, e, c.typ, c.body)
		}
		if typ, body, e := Encode(c.v, true); typ != c.typ || body != c.tiny || e != api.OK {
			t.Errorf("%s, compressed: %d, %q, %d; want %d, %q", c.name, typ, body, e, c.typ, c.tiny)
		}
	}
}

// TestEncodeNothing: nil, and values without elements.
func TestEncodeNothing(t *testing.T) {
	for _, compress := range []bool{false, true} {
		if typ, body, e := Encode(nil, compress); typ != 0 || body != "" || e != api.ErrArg {
			t.Errorf("nil: %d, %q, %d", typ, body, e)
		}
		for _, th := range several {
			if typ, body, e := Encode(made(api.KindString, th), compress); typ != 0 || body != "\x00" || e != api.OK {
				t.Errorf("the empty string: %d, %q, %d", typ, body, e)
			}
			for _, v := range bareValues(th) {
				if typ, body, e := Encode(v, compress); typ != 0 || body != "" || e != api.ErrValue {
					t.Errorf("kind %d, %s, without elements: %d, %q, %d", v.Kind(), v.Encoding(), typ, body, e)
				}
			}
		}
	}
}

// bareValues are values without elements: those that never had any, and those that have lost all.
func bareValues(th api.Thresholds) []*value.Value {
	list := listValue(th, counted(20, 9)...)
	list.Remove(0, 20)
	set, hash, zset := setValue(th, counted(20, 9)...), hashValue(th, counted(20, 9)...), made(api.KindZset, th)
	set.Drop(counted(20, 9)...)
	hash.Erase(counted(20, 9)...)
	for _, s := range counted(20, 9) {
		zset.ZAdd(api.Scored{Member: s})
	}
	zset.ZDrop(counted(20, 9)...)
	return []*value.Value{made(api.KindList, th), made(api.KindSet, th), made(api.KindZset, th), made(api.KindHash, th), list, set, zset, hash}
}

// TestEncodeMaxElement: a blob of MaxElement bytes may be packed, a longer one is not; and both come back.
func TestEncodeMaxElement(t *testing.T) {
	for _, more := range []int{-1, 0, 1, 2} {
		size := api.MaxElement + more
		texts := packTexts(size)
		for _, v := range []*value.Value{listValue(most, texts...), setValue(most, texts...)} {
			blob := v.Raw()[0]
			if len(blob) != size || len(v.Raw()) != 1 {
				t.Fatalf("a blob of %d bytes instead of %d", len(blob), size)
			}
			want := plain(blob)
			if p, ok := lzf.Pack(blob); ok != (more <= 0) {
				t.Fatalf("lzf.Pack of %d bytes: %t", size, ok)
			} else if ok {
				want = packed(p, size)
			}
			if v.Kind() == api.KindList {
				want = "\x01\x02" + want
			}
			typ, body, e := Encode(v, true)
			if body != want || e != api.OK {
				t.Errorf("kind %d, %d bytes: %s, %d; want %s", v.Kind(), size, short(body), e, short(want))
			}
			if w, e := Decode(typ, body, most); e != api.OK || !same(v, w) {
				t.Errorf("kind %d, %d bytes: not back: %d", v.Kind(), size, e)
			}
		}
	}
}

// TestEncodeLongest: strings and members of MaxElement bytes, and the longest blobs that values have.
func TestEncodeLongest(t *testing.T) {
	longest := strings.Repeat("a", api.MaxElement)
	wide := counted(4096, 4096)
	hash := made(api.KindHash, most)
	fields := make([]api.Field, len(wide))
	for i, s := range wide {
		fields[i] = api.Field{Name: s, Value: s}
	}
	hash.Put(fields...)
	if hash.Encoding() != "listpack" || len(hash.Raw()[0]) > MaxBlob {
		t.Fatalf("a hash: %s of %d bytes", hash.Encoding(), len(hash.Raw()[0]))
	}
	many := make([]string, api.MaxCount)
	for i := range many {
		many[i] = textOf(i * (math.MaxInt / api.MaxCount))
	}
	values := []*value.Value{
		textValue(most, longest), listValue(most, longest, "b"), setValue(most, longest, "b"), hashValue(most, longest, longest), zsetValue(most, longest, "1"),
		hash, setValue(most, wide...), setValue(most, many...),
	}
	for _, v := range values {
		for _, compress := range []bool{false, true} {
			typ, body, e := Encode(v, compress)
			if e != api.OK {
				t.Errorf("kind %d, %s: error %d", v.Kind(), v.Encoding(), e)
				continue
			}
			if n, e := Size(typ, body+"x"); n != len(body) || e != api.OK {
				t.Errorf("kind %d, %s: Size %d, %d; want %d", v.Kind(), v.Encoding(), n, e, len(body))
			}
			if w, e := Decode(typ, body, most); e != api.OK || !same(v, w) {
				t.Errorf("kind %d, %s: not back: %d", v.Kind(), v.Encoding(), e)
			}
		}
	}
}

// TestWriteMaxBlob: a blob of MaxBlob bytes is written, one more is refused. (No value has so long a blob by chapter 10, so it is asked below the face.)
func TestWriteMaxBlob(t *testing.T) {
	blob := strings.Repeat("\x01", MaxBlob+1)
	for _, r := range rows {
		if !r.blob {
			continue
		}
		l, err := layoutOf(r.typ)
		if err != nil {
			t.Fatal(err)
		}
		head := ""
		if r.typ == 18 {
			head = "\x01\x02"
		}
		if body, err := l.write(true, blob[1:]); err != nil || body != head+"\x80\x04\x00\x00\x00"+blob[1:] {
			t.Errorf("type %d, MaxBlob bytes: %s, %v", r.typ, short(body), err)
		}
		if body, err := l.write(true, blob); body != "" || numberOf(err) != api.ErrLong {
			t.Errorf("type %d, one byte more: %s, %v", r.typ, short(body), err)
		}
	}
	l, _ := layoutOf(18)
	if body, err := l.write(false, pack("a"), blob, pack("b")); body != "" || numberOf(err) != api.ErrLong {
		t.Errorf("a node among others: %s, %v", short(body), err)
	}
}

// TestKind: each type, and those between, beyond and below.
func TestKind(t *testing.T) {
	kinds := map[int]int{0: 1, 2: 3, 3: 4, 4: 5, 11: 3, 16: 5, 17: 4, 18: 2, 20: 3}
	for typ := -300; typ <= 300; typ++ {
		if got := Kind(typ); got != kinds[typ] {
			t.Errorf("Kind(%d) = %d; want %d", typ, got, kinds[typ])
		}
	}
	for _, typ := range []int{math.MaxInt, math.MinInt, 1 << 32, 1<<32 + 2, 256 + 2} {
		if got := Kind(typ); got != api.KindNone {
			t.Errorf("Kind(%d) = %d", typ, got)
		}
	}
}

// TestErrorsWrapped: a number is found however deep within it was met; no error has none.
func TestErrorsWrapped(t *testing.T) {
	err := met("a part", api.ErrRef)
	for _, part := range []string{"text 3", "a node"} {
		err = within{part, err}
	}
	if got := numberOf(err); got != api.ErrRef {
		t.Errorf("numberOf = %d", got)
	}
	if got := err.Error(); got != "a node: text 3: a part: error 30" {
		t.Errorf("Error = %q", got)
	}
	if met("a part", api.OK) != nil || numberOf(nil) != api.OK {
		t.Error("OK is an error")
	}
	if _, err := layoutFor(api.KindSet, "skiplist"); numberOf(err) != api.ErrValue {
		t.Errorf("a set that is a skiplist: %v", err)
	}
}
