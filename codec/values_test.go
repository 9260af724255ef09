package codec

import (
	"fmt"
	"strconv"
	"strings"
	"testing"

	"cistern/api"
	"cistern/intset"
	"cistern/listpack"
	"cistern/value"
)

// This file makes values and pieces of values for the other tests.

func made(kind int, th api.Thresholds) *value.Value {
	v, e := value.New(kind, th)
	if e != api.OK {
		panic(e)
	}
	return v
}

func textValue(th api.Thresholds, s string) *value.Value {
	v := made(api.KindString, th)
	v.SetText(s)
	return v
}

func listValue(th api.Thresholds, entries ...string) *value.Value {
	v := made(api.KindList, th)
	v.Push(false, entries...)
	return v
}

func setValue(th api.Thresholds, members ...string) *value.Value {
	v := made(api.KindSet, th)
	v.Add(members...)
	return v
}

// hashValue takes names and values in turns.
func hashValue(th api.Thresholds, entries ...string) *value.Value {
	v := made(api.KindHash, th)
	for i := 0; i < len(entries); i += 2 {
		v.Put(api.Field{Name: entries[i], Value: entries[i+1]})
	}
	return v
}

// zsetValue takes members and scores in turns.
func zsetValue(th api.Thresholds, entries ...string) *value.Value {
	v := made(api.KindZset, th)
	for i := 0; i < len(entries); i += 2 {
		score, _ := strconv.Atoi(entries[i+1])
		v.ZAdd(api.Scored{Member: entries[i], Score: score})
	}
	return v
}

func pack(values ...string) string {
	p, e := listpack.New(values...)
	if e != api.OK {
		panic(e)
	}
	return p
}

func ints(numbers ...int) string {
	p := intset.New()
	for _, n := range numbers {
		p, _, _ = intset.Add(p, n)
	}
	return p
}

// counted gives so many unlike texts of so many bytes each.
func counted(n, size int) []string {
	texts := make([]string, n)
	for i := range texts {
		s := fmt.Sprintf("n%07d", i)
		texts[i] = s + strings.Repeat("x", max(size-len(s), 0))
	}
	return texts
}

// packTexts are unlike texts of at most 4000 bytes of which the listpack has just so many bytes (some hundreds at least).
func packTexts(size int) []string {
	const each, entry = 4000, 4004
	full := max((size-7-300)/entry, 0)
	texts := counted(full, each)
	rest := size - 7 - full*entry
	if rest > entry {
		texts = append(texts, "half"+strings.Repeat("y", 1996))
		rest -= 2004
	}
	return append(texts, strings.Repeat("z", rest-4))
}

func TestPackTexts(t *testing.T) {
	for _, size := range []int{400, 4000, 4311, 4312, 5000, 8000, api.MaxElement - 1, api.MaxElement, api.MaxElement + 1} {
		if got := len(pack(packTexts(size)...)); got != size {
			t.Fatalf("%d bytes instead of %d", got, size)
		}
	}
}

// sample is a value in an encoding, with the type and the bytes that it has (without compress).
type sample struct {
	name      string
	v         *value.Value
	encoding  string
	typ       int
	body      string
	threshold api.Thresholds
}

// samples are values of each kind in each encoding.
func samples() []sample {
	th := middle
	long := strings.Repeat("long ", 20)
	return []sample{
		{"a number", textValue(th, "12"), "int", 0, "\xc0\x0c", th},
		{"a great number", textValue(th, "2147483648"), "int", 0, "\x0a2147483648", th},
		{"a text", textValue(th, "hello"), "embstr", 0, "\x05hello", th},
		{"the empty text", textValue(th, ""), "embstr", 0, "\x00", th},
		{"a long text", textValue(th, long), "raw", 0, "\x40\x64" + long, th},
		{"a short list", listValue(th, "a", "1"), "listpack", 18, "\x01\x02\x0c" + "\x0c\x00\x00\x00\x02\x00\x81a\x02\x01\x01\xff", th},
		{"a list of an empty element", listValue(th, ""), "listpack", 18, "\x01\x02\x09" + "\x09\x00\x00\x00\x01\x00\x80\x01\xff", th},
		{"a list", listValue(several[3], "a", "b", "c"), "quicklist", 18, "\x02\x02\x0d" + "\x0d\x00\x00\x00\x02\x00\x81a\x02\x81b\x02\xff" + "\x02\x0a" + "\x0a\x00\x00\x00\x01\x00\x81c\x02\xff", several[3]},
		{"a list with a large element", listValue(th, "a", long, "b"), "quicklist", 18, "\x03\x02\x0a" + "\x0a\x00\x00\x00\x01\x00\x81a\x02\xff" + "\x02\x40\x6e" + "\x6e\x00\x00\x00\x01\x00\xe0\x64" + long + "\x66\xff" + "\x02\x0a" + "\x0a\x00\x00\x00\x01\x00\x81b\x02\xff", th},
		{"a set of numbers", setValue(th, "2", "1"), "intset", 11, "\x0c\x02\x00\x00\x00\x02\x00\x00\x00\x01\x00\x02\x00", th},
		{"a set of a wide number", setValue(th, "-1", "70000"), "intset", 11, "\x10\x04\x00\x00\x00\x02\x00\x00\x00\xff\xff\xff\xff\x70\x11\x01\x00", th},
		{"a short set", setValue(th, "b", "a"), "listpack", 20, "\x0d" + "\x0d\x00\x00\x00\x02\x00\x81b\x02\x81a\x02\xff", th},
		{"a set", setValue(th, "e", "d", "3", "b", "a"), "hashtable", 2, "\x05\xc0\x03\x01a\x01b\x01d\x01e", th},
		{"a set of a long member", setValue(th, "300", long), "hashtable", 2, "\x02\xc1\x2c\x01\x40\x64" + long, th},
		{"a short sorted set", zsetValue(th, "b", "1", "a", "1"), "listpack", 17, "\x11" + "\x11\x00\x00\x00\x04\x00\x81a\x02\x01\x01\x81b\x02\x01\x01\xff", th},
		{"a sorted set", zsetValue(least, "b", "300", "a", "-1", "7", "9007199254740991"), "skiplist", 3, "\x03\x01a\xc0\xff\x01b\xc1\x2c\x01\xc0\x07\x109007199254740991", least},
		{"a short hash", hashValue(th, "b", "1", "a", "2"), "listpack", 16, "\x11" + "\x11\x00\x00\x00\x04\x00\x81b\x02\x01\x01\x81a\x02\x02\x01\xff", th},
		{"a hash", hashValue(least, "b", "1", "", "x", "a", ""), "hashtable", 4, "\x03\x00\x01x\x01a\x00\x01b\xc0\x01", least},
	}
}

// grown gives a value of a kind that some calls have led to.
func grown(m *mix, kind int, th api.Thresholds) *value.Value {
	v := made(kind, th)
	for range 1 + m.below(12) {
		change(m, v, kind)
	}
	return v
}

// word gives a text of any sort: a number of any width, short, long, very long, with few or many kinds of bytes.
func word(m *mix) string {
	switch m.below(8) {
	case 0:
		return fmt.Sprint(m.below(20))
	case 1:
		return fmt.Sprint(int(m.next()) >> m.below(64))
	case 2:
		return m.text(m.below(4), 3)
	case 3:
		return "0" + fmt.Sprint(m.below(9))
	case 4:
		return m.text(15+m.below(12), 2)
	case 5:
		return m.text(m.below(130), 1+m.below(26))
	case 6:
		if m.below(20) == 0 {
			return m.text(m.below(20000), 1+m.below(5))
		}
	}
	return m.text(1+m.below(3), 26)
}

func score(m *mix) int {
	if m.below(3) == 0 {
		return (int(m.next()) >> 1) % (api.MaxNumber + 1) >> m.below(50)
	}
	return m.below(9) - 4
}

func change(m *mix, v *value.Value, kind int) {
	drop := m.below(4) == 0
	switch kind {
	case api.KindString:
		v.SetText(word(m))
	case api.KindList:
		switch {
		case drop:
			v.Pop(m.below(2) == 0, 1)
		case m.below(2) == 0:
			v.Insert(m.below(v.Len()+1), word(m))
		default:
			v.Push(m.below(2) == 0, word(m), word(m))
		}
	case api.KindSet:
		switch {
		case drop:
			members, _ := v.Members()
			v.Drop(members[:min(1, len(members))]...)
		case m.below(3) > 0 && v.Encoding() == "intset":
			v.Add(fmt.Sprint(int(m.next()) >> m.below(64)))
		default:
			v.Add(word(m))
		}
	case api.KindZset:
		if drop {
			v.ZDrop(word(m))
		} else {
			v.ZAdd(api.Scored{Member: word(m), Score: score(m)}, api.Scored{Member: word(m), Score: score(m)})
		}
	case api.KindHash:
		if drop {
			v.Erase(word(m))
		} else {
			v.Put(api.Field{Name: word(m), Value: word(m)}, api.Field{Name: word(m), Value: word(m)})
		}
	}
}

var kinds = []int{api.KindString, api.KindList, api.KindSet, api.KindZset, api.KindHash}

func textOf(n int) string { return strconv.Itoa(n) }
