package dump

import (
	"fmt"
	"strconv"
	"strings"
	"testing"

	"cistern/api"
	"cistern/codec"
	"cistern/listpack"
	"cistern/value"
)

// This file makes values and payloads for the other tests.

// mix gives numbers that look mixed, the same ones in every run.
type mix uint64

func (m *mix) next() uint64 {
	*m ^= *m << 13
	*m ^= *m >> 7
	*m ^= *m << 17
	return uint64(*m)
}

func (m *mix) below(n int) int { return int((m.next() >> 11) % uint64(n)) }

func of[T any](m *mix, list ...T) T { return list[m.below(len(list))] }

// text gives n bytes of the first so many letters.
func (m *mix) text(n, kinds int) string {
	b := make([]byte, n)
	for i := range b {
		b[i] = byte('a' + m.below(kinds))
	}
	return string(b)
}

// word gives a text of any sort: a number of any width, short, long, with few or many kinds of bytes.
func (m *mix) word() string {
	switch m.below(7) {
	case 0:
		return fmt.Sprint(m.below(20))
	case 1:
		return fmt.Sprint(int(m.next()) >> m.below(64))
	case 2:
		return m.text(15+m.below(12), 2)
	case 3:
		return m.text(m.below(130), 1+m.below(26))
	case 4:
		return "0" + fmt.Sprint(m.below(9))
	}
	return m.text(m.below(4), 26)
}

func (m *mix) score() int { return of(m, m.below(9)-4, -api.MaxNumber, api.MaxNumber, m.below(100000)) }

// Thresholds, some of which let little be compact, some of which let all.
var (
	least   = api.Thresholds{ListEntries: 1}
	most    = api.Thresholds{ListEntries: 4096, ListBytes: 4096, SetInts: api.MaxCount, SetEntries: 4096, SetBytes: 4096, ZsetEntries: 4096, ZsetBytes: 4096, HashEntries: 4096, HashBytes: 4096}
	middle  = api.Thresholds{ListEntries: 4, ListBytes: 64, SetInts: 4, SetEntries: 4, SetBytes: 8, ZsetEntries: 4, ZsetBytes: 8, HashEntries: 4, HashBytes: 8}
	several = []api.Thresholds{
		least, most, middle,
		{ListEntries: 2, ListBytes: 8, SetInts: 3, SetEntries: 3, SetBytes: 4, ZsetEntries: 2, ZsetBytes: 4, HashEntries: 2, HashBytes: 4},
		{ListEntries: 9, ListBytes: 0, SetInts: 0, SetEntries: 8, SetBytes: 99, ZsetEntries: 0, ZsetBytes: 9, HashEntries: 99, HashBytes: 99},
	}
	kinds = []int{api.KindString, api.KindList, api.KindSet, api.KindZset, api.KindHash}
)

// made is a value of a kind with texts: of a string the last one; members and scores, names and values in turns.
func made(kind int, th api.Thresholds, texts ...string) *value.Value {
	v, e := value.New(kind, th)
	note := func(_ int, err api.Errno) { e = max(e, err) }
	for i, s := range texts {
		switch kind {
		case api.KindString:
			note(0, v.SetText(s))
		case api.KindList:
			note(0, v.Push(false, s))
		case api.KindSet:
			note(v.Add(s))
		case api.KindZset:
			if i%2 == 0 {
				score, _ := strconv.Atoi(texts[i+1])
				note(v.ZAdd(api.Scored{Member: s, Score: score}))
			}
		case api.KindHash:
			if i%2 == 0 {
				note(v.Put(api.Field{Name: s, Value: texts[i+1]}))
			}
		}
	}
	if e != api.OK {
		panic(e)
	}
	return v
}

// grown gives a value of a kind, with elements, that some calls have led to.
func grown(m *mix, kind int, th api.Thresholds) *value.Value {
	v := made(kind, th)
	for range 1 + m.below(9) {
		change(m, v)
	}
	if m.below(30) == 0 && kind == api.KindString {
		v.SetText(strings.Repeat(m.text(9, 9), m.below(900)))
	}
	return v
}

// change puts something into a value.
func change(m *mix, v *value.Value) {
	switch v.Kind() {
	case api.KindString:
		v.SetText(m.word())
	case api.KindList:
		v.Push(m.below(2) == 0, m.word())
		v.Insert(m.below(v.Len()+1), m.word())
	case api.KindSet:
		if v.Encoding() == "intset" && m.below(3) > 0 {
			v.Add(fmt.Sprint(int(m.next()) >> m.below(64)))
			return
		}
		v.Add(m.word())
	case api.KindZset:
		v.ZAdd(api.Scored{Member: m.word(), Score: m.score()}, api.Scored{Member: m.word(), Score: m.score()})
	case api.KindHash:
		v.Put(api.Field{Name: m.word(), Value: m.word()}, api.Field{Name: m.word(), Value: m.word()})
	}
}

// length is a length's bytes.
func length(n int) string {
	switch {
	case n < 1<<6:
		return string([]byte{byte(n)})
	case n < 1<<14:
		return string([]byte{byte(0x40 + n>>8), byte(n)})
	}
	return "\x80" + string([]byte{byte(n >> 24), byte(n >> 16), byte(n >> 8), byte(n)})
}

// plain is a text's plain form, whatever text it is.
func plain(s string) string { return length(len(s)) + s }

// packed is a packed text that says to have so many bytes.
func packed(p string, n int) string { return "\xc3" + length(len(p)) + length(n) + p }

func pack(values ...string) string {
	p, _ := listpack.New(values...)
	return p
}

// refSum is the sum by chapter 1's words, bit by bit.
func refSum(s string) uint64 {
	c := uint64(0)
	for i := range len(s) {
		c ^= uint64(s[i])
		for range 8 {
			odd := c%2 == 1
			c /= 2
			if odd {
				c ^= 0x95ac9329ac4bc9b5
			}
		}
	}
	return c
}

// summed is bytes with their sum behind them.
func summed(s string) string {
	b := []byte(s)
	for c, i := refSum(s), 0; i < 8; i++ {
		b = append(b, byte(c))
		c >>= 8
	}
	return string(b)
}

// versioned is a payload with a version, whatever type and bytes are.
func versioned(typ int, body string, low, high byte) string {
	return summed(string([]byte{byte(typ)}) + body + string([]byte{low, high}))
}

func payloadOf(typ int, body string) string { return versioned(typ, body, 11, 0) }

// sample is a value in an encoding, with the type and the bytes that it has, where nothing is packed.
type sample struct {
	name     string
	v        *value.Value
	encoding string
	typ      int
	body     string
}

// samples are values of each kind in each encoding.
func samples() []sample {
	long := strings.Repeat("long ", 20)
	return []sample{
		{"a number", made(1, middle, "12"), "int", 0, "\xc0\x0c"},
		{"a great number", made(1, middle, "2147483648"), "int", 0, "\x0a2147483648"},
		{"a text", made(1, middle, "hello"), "embstr", 0, "\x05hello"},
		{"the empty text", made(1, middle, ""), "embstr", 0, "\x00"},
		{"a long text", made(1, middle, long), "raw", 0, "\x40\x64" + long},
		{"a short list", made(2, middle, "a", "1"), "listpack", 18, "\x01\x02\x0c" + "\x0c\x00\x00\x00\x02\x00\x81a\x02\x01\x01\xff"},
		{"a list", made(2, several[3], "a", "b", "c"), "quicklist", 18, "\x02\x02\x0d" + "\x0d\x00\x00\x00\x02\x00\x81a\x02\x81b\x02\xff" + "\x02\x0a" + "\x0a\x00\x00\x00\x01\x00\x81c\x02\xff"},
		{"a list with a long entry", made(2, middle, "a", long), "quicklist", 18, "\x02\x02\x0a" + "\x0a\x00\x00\x00\x01\x00\x81a\x02\xff" + "\x02\x40\x6e" + "\x6e\x00\x00\x00\x01\x00\xe0\x64" + long + "\x66\xff"},
		{"a set of numbers", made(3, middle, "2", "1"), "intset", 11, "\x0c\x02\x00\x00\x00\x02\x00\x00\x00\x01\x00\x02\x00"},
		{"a short set", made(3, middle, "b", "a"), "listpack", 20, "\x0d" + "\x0d\x00\x00\x00\x02\x00\x81b\x02\x81a\x02\xff"},
		{"a set", made(3, middle, "e", "d", "3", "b", "a"), "hashtable", 2, "\x05\xc0\x03\x01a\x01b\x01d\x01e"},
		{"a set of a long member", made(3, middle, "300", long), "hashtable", 2, "\x02\xc1\x2c\x01\x40\x64" + long},
		{"a short sorted set", made(4, middle, "b", "1", "a", "1"), "listpack", 17, "\x11" + "\x11\x00\x00\x00\x04\x00\x81a\x02\x01\x01\x81b\x02\x01\x01\xff"},
		{"a sorted set", made(4, least, "b", "300", "a", "-1", "7", "9007199254740991"), "skiplist", 3, "\x03\x01a\xc0\xff\x01b\xc1\x2c\x01\xc0\x07\x109007199254740991"},
		{"a short hash", made(5, middle, "b", "1", "a", "2"), "listpack", 16, "\x11" + "\x11\x00\x00\x00\x04\x00\x81b\x02\x01\x01\x81a\x02\x02\x01\xff"},
		{"a hash", made(5, least, "b", "1", "", "x", "a", ""), "hashtable", 4, "\x03\x00\x01x\x01a\x00\x01b\xc0\x01"},
	}
}

// sound gives many payloads of values of all kinds and encodings.
func sound(m *mix, n int) []string {
	var list []string
	for _, s := range samples() {
		list = append(list, payloadOf(s.typ, s.body))
	}
	for len(list) < n {
		typ, body, e := codec.Encode(grown(m, of(m, kinds...), of(m, several...)), m.below(2) == 0)
		if e != api.OK {
			panic(e)
		}
		list = append(list, payloadOf(typ, body))
	}
	return list
}

// wrong is a payload whose sum is right and whose type or bytes are none of a value, with the error that layer 21 has for it.
type wrong struct {
	name    string
	payload string
	e       api.Errno
}

func wrongs() []wrong {
	return []wrong{
		{"type 1", payloadOf(1, "\x00"), api.ErrOpcode},
		{"type 255", payloadOf(255, ""), api.ErrOpcode},
		{"no bytes", payloadOf(0, ""), api.ErrShort},
		{"no bytes of a list", payloadOf(18, ""), api.ErrShort},
		{"a text cut", payloadOf(0, "\x05hell"), api.ErrShort},
		{"a list cut", payloadOf(18, "\x02\x02"+plain(pack("a"))), api.ErrShort},
		{"a byte behind", payloadOf(0, "\x05hello!"), api.ErrValue},
		{"a text behind", payloadOf(2, "\x01\x01a\x01b"), api.ErrValue},
		{"a number too wide", payloadOf(0, "\xc1\x0c\x00"), api.ErrForm},
		{"a length too wide", payloadOf(0, "\x40\x01a"), api.ErrForm},
		{"a node's first byte", payloadOf(18, "\x01\x01"+plain(pack("a"))), api.ErrForm},
		{"a copy from ahead", payloadOf(0, packed("\x00a\x20\x01", 4)), api.ErrRef},
		{"packed to another length", payloadOf(0, packed("\x00a", 2)), api.ErrSize},
		{"too many members", payloadOf(2, length(api.MaxCount+1)), api.ErrLong},
		{"no members", payloadOf(2, "\x00"), api.ErrValue},
		{"no nodes", payloadOf(18, "\x00"), api.ErrValue},
		{"an empty intset", payloadOf(11, "\x08\x02\x00\x00\x00\x00\x00\x00\x00"), api.ErrValue},
		{"a falling set", payloadOf(2, "\x02\x01b\x01a"), api.ErrValue},
		{"a member twice", payloadOf(20, plain(pack("a", "a"))), api.ErrValue},
		{"half a field", payloadOf(16, plain(pack("a"))), api.ErrValue},
		{"a score that is none", payloadOf(3, "\x01\x01a\x01x"), api.ErrValue},
		{"a sorted set out of order", payloadOf(17, plain(pack("a", "2", "b", "1"))), api.ErrValue},
		{"no listpack", payloadOf(20, "\x01a"), api.ErrValue},
	}
}

// short is a text as a failure tells it.
func short(s string) string {
	if len(s) > 300 {
		return fmt.Sprintf("%d bytes that begin with %q", len(s), s[:60])
	}
	return fmt.Sprintf("%q", s)
}

// TestValues: what this file makes is what it says.
func TestValues(t *testing.T) {
	for _, s := range samples() {
		typ, body, e := codec.Encode(s.v, false)
		if s.v.Encoding() != s.encoding || typ != s.typ || body != s.body || e != api.OK {
			t.Errorf("%s is %s: type %d, %q, error %d", s.name, s.v.Encoding(), typ, body, e)
		}
	}
	if refSum("123456789") != 0xe9c6d914c4b8d9ca || refSum(summed("any text")) != 0 {
		t.Error("the sum is not chapter 1's")
	}
	m := mix(1)
	seen := map[string]int{}
	for range 3000 {
		v := grown(&m, of(&m, kinds...), of(&m, several...))
		seen[fmt.Sprint(v.Kind(), v.Encoding())]++
	}
	if len(seen) != 12 {
		t.Errorf("kinds and encodings: %v", seen)
	}
}
