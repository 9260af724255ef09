package resp

import (
	"fmt"
	"math"
	"slices"
	"sort"
	"strings"
	"testing"

	"cistern/api"
)

// repliesEqual: nil and the empty list are the same.
func repliesEqual(a, b api.Reply) bool {
	return a.Kind == b.Kind && a.Text == b.Text && a.N == b.N && slices.EqualFunc(a.List, b.List, repliesEqual)
}

// kindly gives a list of a kind.
func kindly(kind int, list ...api.Reply) api.Reply {
	return api.Reply{Kind: kind, List: list}
}

var listKinds = []int{api.ReplyArray, api.ReplyMap, api.ReplySet, api.ReplyPush}

// nested gives lists so deep, each with pad (if it is a map, so that its number is even) and the next one.
func nested(kind, deep int, inmost ...api.Reply) api.Reply {
	list := inmost
	for i := range deep {
		if kind == api.ReplyMap && i > 0 {
			list = append([]api.Reply{{Kind: api.ReplyInt, N: i}}, list...)
		}
		list = []api.Reply{kindly(kind, list...)}
	}
	return list[0]
}

func encodes(t *testing.T, r api.Reply, two, three string) {
	t.Helper()
	for proto, want := range map[int]string{2: two, 3: three} {
		if got, err := Encode(r, proto); got != want || err != api.OK {
			t.Errorf("Encode(%v, %d) = %q, error %d, want %q", r, proto, got, err, want)
		}
	}
	for _, proto := range []int{-1, 0, 1, 4, 5, 32, math.MinInt, math.MaxInt} {
		if got, err := Encode(r, proto); got != "" || err != api.ErrArg {
			t.Errorf("Encode(%v, %d) = %q, error %d, want ErrArg", r, proto, got, err)
		}
	}
}

func cantEncode(t *testing.T, r api.Reply) {
	t.Helper()
	for proto := range 6 {
		if got, err := Encode(r, proto); got != "" || err != api.ErrArg {
			t.Errorf("Encode(%s, %d) = %s, error %d, want ErrArg", short(r), proto, short(got), err)
		}
	}
}

// TestP12_3Kinds: each kind in both forms.
func TestP12_3Kinds(t *testing.T) {
	same := func(r api.Reply, want string) {
		t.Helper()
		encodes(t, r, want, want)
	}
	same(api.Reply{Kind: api.ReplyStatus, Text: "OK"}, "+OK\r\n")
	same(api.Reply{Kind: api.ReplyStatus}, "+\r\n")
	same(api.Reply{Kind: api.ReplyStatus, Text: "\ra\nb\r\n"}, "+ a b  \r\n")
	same(api.Reply{Kind: api.ReplyError, Text: "ERR x"}, "-ERR x\r\n")
	same(api.Reply{Kind: api.ReplyError}, "-\r\n")
	same(api.Reply{Kind: api.ReplyError, Text: "\r\n\n\r\x00\xff"}, "-    \x00\xff\r\n")
	for _, n := range []int{0, 1, -1, 10, -10, math.MaxInt, math.MinInt} {
		same(api.Reply{Kind: api.ReplyInt, N: n}, fmt.Sprintf(":%d\r\n", n))
	}
	same(api.Reply{Kind: api.ReplyBulk}, "$0\r\n\r\n")
	same(api.Reply{Kind: api.ReplyBulk, Text: "a\r\nb"}, "$4\r\na\r\nb\r\n")
	same(api.Reply{Kind: api.ReplyBulk, Text: "0123456789\x00\xff"}, "$12\r\n0123456789\x00\xff\r\n")
	long := strings.Repeat("x", api.MaxElement+1)
	same(api.Reply{Kind: api.ReplyBulk, Text: long}, "$524289\r\n"+long+"\r\n")
	same(kindly(api.ReplyArray), "*0\r\n")
	same(kindly(api.ReplyArray, Int(1), Bulk("a")), "*2\r\n:1\r\n$1\r\na\r\n")
	same(kindly(api.ReplyArray, kindly(api.ReplyArray), kindly(api.ReplyArray, Int(2))), "*2\r\n*0\r\n*1\r\n:2\r\n")
	encodes(t, api.Reply{Kind: api.ReplyNull}, "$-1\r\n", "_\r\n")
	encodes(t, api.Reply{Kind: api.ReplyNulls}, "*-1\r\n", "_\r\n")
	encodes(t, kindly(api.ReplyArray, Null(), api.Reply{Kind: api.ReplyNulls}), "*2\r\n$-1\r\n*-1\r\n", "*2\r\n_\r\n_\r\n")
	encodes(t, kindly(api.ReplyMap), "*0\r\n", "%0\r\n")
	encodes(t, kindly(api.ReplyMap, Bulk("a"), Int(1)), "*2\r\n$1\r\na\r\n:1\r\n", "%1\r\n$1\r\na\r\n:1\r\n")
	encodes(t, kindly(api.ReplyMap, Int(1), Int(2), Int(1), Int(3)), "*4\r\n:1\r\n:2\r\n:1\r\n:3\r\n", "%2\r\n:1\r\n:2\r\n:1\r\n:3\r\n")
	encodes(t, kindly(api.ReplySet), "*0\r\n", "~0\r\n")
	encodes(t, kindly(api.ReplySet, Int(1), Int(1), Int(0)), "*3\r\n:1\r\n:1\r\n:0\r\n", "~3\r\n:1\r\n:1\r\n:0\r\n")
	encodes(t, kindly(api.ReplyPush), "*0\r\n", ">0\r\n")
	encodes(t, kindly(api.ReplyPush, Bulk("message"), Null()), "*2\r\n$7\r\nmessage\r\n$-1\r\n", ">2\r\n$7\r\nmessage\r\n_\r\n")
	for _, n := range []int{1, 2, -1, math.MinInt} {
		encodes(t, api.Reply{Kind: api.ReplyBool, N: n}, ":1\r\n", "#t\r\n")
	}
	encodes(t, api.Reply{Kind: api.ReplyBool}, ":0\r\n", "#f\r\n")
	same(api.Reply{Kind: api.ReplyNone}, "")
	encodes(t, kindly(api.ReplySet, kindly(api.ReplyMap, Status("a\n"), api.Reply{Kind: api.ReplyBool, N: 7})), "*1\r\n*2\r\n+a \r\n:1\r\n", "~1\r\n%1\r\n+a \r\n#t\r\n")
}

// TestP12_3OtherFields: fields that a kind does not name are not written, and not looked at.
func TestP12_3OtherFields(t *testing.T) {
	junk := []api.Reply{{Kind: 99}, {Kind: api.ReplyNone}, {Kind: -1}}
	for kind := range 12 {
		r := api.Reply{Kind: kind}
		full := api.Reply{Kind: kind, Text: "t\r\n", N: 5, List: junk}
		switch kind {
		case api.ReplyStatus, api.ReplyError, api.ReplyBulk:
			r.Text = full.Text
		case api.ReplyInt, api.ReplyBool:
			r.N = full.N
		case api.ReplyArray, api.ReplyMap, api.ReplySet, api.ReplyPush:
			full.List = []api.Reply{Int(1), Int(2)}
			r.List = full.List
		}
		for proto := 2; proto < 4; proto++ {
			want, e := Encode(r, proto)
			if got, err := Encode(full, proto); got != want || err != api.OK || e != api.OK {
				t.Errorf("kind %d: %q, error %d, want %q", kind, got, err, want)
			}
		}
	}
}

// TestP12_3Wrong: what can't be written, also within lists.
func TestP12_3Wrong(t *testing.T) {
	wrong := []api.Reply{{Kind: 12}, {Kind: -1}, {Kind: 13, Text: "x"}, {Kind: math.MaxInt}, {Kind: math.MinInt},
		kindly(api.ReplyMap, Int(1)), kindly(api.ReplyMap, Int(1), Int(2), Int(3))}
	for _, r := range wrong {
		cantEncode(t, r)
	}
	wrong = append(wrong, api.Reply{Kind: api.ReplyNone})
	for _, r := range wrong {
		for _, kind := range listKinds {
			cantEncode(t, kindly(kind, r, Int(1)))
			cantEncode(t, kindly(kind, Int(1), r))
			cantEncode(t, kindly(kind, Int(1), kindly(api.ReplyArray, Int(1), r)))
			cantEncode(t, nested(kind, 32, r, r))
		}
		cantEncode(t, kindly(api.ReplyArray, Int(1), kindly(api.ReplySet), r, Int(3)))
	}
}

// TestP12_3Depth: lists 32 and 33 deep.
func TestP12_3Depth(t *testing.T) {
	for _, kind := range listKinds {
		for _, inmost := range [][]api.Reply{nil, {Int(1), Null()}, {{Kind: api.ReplyNulls}, Bulk("")}} {
			for deep := 1; deep < 33; deep++ {
				r := nested(kind, deep, inmost...)
				for proto := 2; proto < 4; proto++ {
					want, _ := modelEncode(r, proto)
					if got, err := Encode(r, proto); got != want || err != api.OK {
						t.Errorf("%d deep: %q, error %d, want %q", deep, got, err, want)
					}
				}
			}
			for _, deep := range []int{33, 34, 1000, 1 << 16} {
				cantEncode(t, nested(kind, deep, inmost...))
			}
		}
		// A list that is too deep, behind others that are not.
		cantEncode(t, kindly(api.ReplyArray, nested(kind, 31), nested(kind, 32)))
	}
	ring := []api.Reply{Int(1), Int(2)}
	ring[0], ring[1] = kindly(api.ReplyArray, ring...), kindly(api.ReplyMap, ring...)
	cantEncode(t, kindly(api.ReplyArray, ring...))
}

// deepPrefix: so many heads of arrays of one.
func deepPrefix(n int) string { return strings.Repeat("*1\r\n", n) }

func decodes(t *testing.T, s string, want api.Reply) {
	t.Helper()
	for _, behind := range []string{"", "\r", "\n", "\r\n", "+", ":1\r\n", "\x00", "x"} {
		if r, n, err := Decode(s + behind); !repliesEqual(r, want) || n != len(s) || err != api.OK {
			t.Errorf("Decode(%s) = %s, %d, error %d, want %s, %d", short(s+behind), short(r), n, err, short(want), len(s))
		}
	}
	step := 1 + len(s)/500
	for i := 0; i < len(s); i += step {
		cantDecode(t, s[:i], api.ErrShort)
	}
}

func cantDecode(t *testing.T, s string, want api.Errno) {
	t.Helper()
	if r, n, err := Decode(s); !repliesEqual(r, api.Reply{}) || n != 0 || err != want {
		t.Errorf("Decode(%s) = %s, %d, error %d, want error %d", short(s), short(r), n, err, want)
	}
}

// noReply: bytes of which all but the last are a beginning of a reply, and all together, whatever follows them, are none.
func noReply(t *testing.T, s string) {
	t.Helper()
	for i := range len(s) {
		cantDecode(t, s[:i], api.ErrShort)
	}
	for _, behind := range []string{"", "\r\n", "0\r\n", "\n", ":1\r\n", "\r\n\r\n"} {
		cantDecode(t, s+behind, api.ErrFrame)
		cantDecode(t, "*2\r\n:1\r\n"+s+behind, api.ErrFrame)
	}
}

// TestP12_4Forms: every form of a reply, every beginning of it, and bytes behind it.
func TestP12_4Forms(t *testing.T) {
	decodes(t, "+OK\r\n", Status("OK"))
	decodes(t, "+\r\n", Status(""))
	decodes(t, "-ERR a b\r\n", Error("ERR a b"))
	decodes(t, "-\r\n", Error(""))
	decodes(t, "+\x00+:$*\xff \t\r\n", Status("\x00+:$*\xff \t"))
	for _, n := range []int{0, 1, -1, 9, 10, -10, 99, 1234567890, math.MaxInt, math.MinInt} {
		decodes(t, fmt.Sprintf(":%d\r\n", n), Int(n))
	}
	decodes(t, "$0\r\n\r\n", Bulk(""))
	decodes(t, "$3\r\na\r\n\r\n", Bulk("a\r\n"))
	decodes(t, "$11\r\n\x00:1\r\n$-1\r\n\xff\r\n", Bulk("\x00:1\r\n$-1\r\n\xff"))
	decodes(t, "$-1\r\n", Null())
	decodes(t, "_\r\n", Null())
	decodes(t, "*-1\r\n", api.Reply{Kind: api.ReplyNulls})
	decodes(t, "#t\r\n", api.Reply{Kind: api.ReplyBool, N: 1})
	decodes(t, "#f\r\n", api.Reply{Kind: api.ReplyBool})
	decodes(t, "*0\r\n", Array())
	decodes(t, "*2\r\n:1\r\n$-1\r\n", Array(Int(1), Null()))
	decodes(t, "%0\r\n", kindly(api.ReplyMap))
	decodes(t, "%2\r\n$1\r\na\r\n:1\r\n+b\r\n_\r\n", kindly(api.ReplyMap, Bulk("a"), Int(1), Status("b"), Null()))
	decodes(t, "~0\r\n", kindly(api.ReplySet))
	decodes(t, "~2\r\n:1\r\n:1\r\n", kindly(api.ReplySet, Int(1), Int(1)))
	decodes(t, ">0\r\n", kindly(api.ReplyPush))
	decodes(t, ">3\r\n+a\r\n-b\r\n#t\r\n", kindly(api.ReplyPush, Status("a"), Error("b"), api.Reply{Kind: api.ReplyBool, N: 1}))
	decodes(t, "*3\r\n*0\r\n%1\r\n~1\r\n>1\r\n*-1\r\n$1\r\nz\r\n_\r\n", Array(Array(), kindly(api.ReplyMap, kindly(api.ReplySet, kindly(api.ReplyPush, api.Reply{Kind: api.ReplyNulls})), Bulk("z")), Null()))
	cantDecode(t, "", api.ErrShort)
}

// TestP12_4NoReply: bytes that are none, told with the first byte that makes them so.
func TestP12_4NoReply(t *testing.T) {
	for b := range 256 {
		if x := string([]byte{byte(b)}); strings.Contains("+-:$*%~>_#", x) {
			cantDecode(t, x, api.ErrShort)
		} else {
			noReply(t, x)
		}
	}
	for b := range 256 {
		x := string([]byte{byte(b)})
		if b != '\n' {
			for _, line := range []string{"+a", "-", ":1", ":-20", "$1", "$-1", "$0", "*0", "*-1", "*1", "%1", "~0", ">0", "_", "#t", "#f", "$1\r\na"} {
				noReply(t, line+"\r"+x)
			}
		}
		if b != '\r' {
			noReply(t, "_"+x)
			noReply(t, "#t"+x)
			noReply(t, "#f"+x)
			noReply(t, "$0\r\n"+x)
			noReply(t, "$1\r\na"+x)
			noReply(t, ":0"+x)
			noReply(t, "$-1"+x)
			noReply(t, "*-1"+x)
		}
		if b != 't' && b != 'f' {
			noReply(t, "#"+x)
		}
		if b < '0' || b > '9' {
			if b != '\r' {
				for _, line := range []string{":1", ":-1", "$1", "*1", "%1", "~1", ">1"} {
					noReply(t, line+x)
				}
			}
			if b != '-' {
				for _, line := range []string{":", "$", "*", ":-"} {
					noReply(t, line+x)
				}
			}
			for _, line := range []string{"%", "~", ">"} {
				noReply(t, line+x)
			}
		}
		if b != '1' {
			noReply(t, "$-"+x)
			noReply(t, "*-"+x)
		}
	}
	noReply(t, "+a\n")
	noReply(t, "-\n")
	noReply(t, ":-0")
	noReply(t, ":00")
	noReply(t, ":--")
	noReply(t, "$00")
	noReply(t, "*00")
	noReply(t, "%00")
	noReply(t, "~00")
	noReply(t, ">00")
	cantDecode(t, ":01\r\n", api.ErrFrame)
	cantDecode(t, "*2\r\n:1\r\nx", api.ErrFrame)
	cantDecode(t, "*2\r\n:1\r\n", api.ErrShort)
}

// TestP12_4Bounds: numbers, lengths and counts at their bounds and outside; none is waited for that can't come.
func TestP12_4Bounds(t *testing.T) {
	for _, s := range []string{":9223372036854775807", ":-9223372036854775808", "$524288", "*1048576", "%524288", "~1048576", ">1048576"} {
		cantDecode(t, s, api.ErrShort)
		cantDecode(t, s+"\r", api.ErrShort)
		if s[0] != ':' {
			cantDecode(t, s+"\r\n", api.ErrShort)
		}
		noReply(t, s+"0")
		noReply(t, s+"x")
	}
	for _, s := range []string{":9223372036854775808", ":-9223372036854775809", "$524289", "$999999", "*1048577", "%524289", "~1048577", ">1048577", "*2000000", "%1048576", "%999999"} {
		noReply(t, s)
	}
	for _, s := range []string{":99999999999999999999", "$9223372036854775807", "*18446744073709551616", ":" + strings.Repeat("9", 1000), "$" + strings.Repeat("1", 1000), ":" + strings.Repeat("x", 1000)} {
		for _, behind := range []string{"", "\r\n"} {
			cantDecode(t, s+behind, api.ErrFrame)
		}
	}
}

// TestP12_4Large: a bulk of MaxElement bytes, lists of MaxCount replies.
func TestP12_4Large(t *testing.T) {
	t.Parallel()
	text := strings.Repeat("x", api.MaxElement)
	decodes(t, "$524288\r\n"+text+"\r\n", Bulk(text))
	cantDecode(t, "$524289\r\n"+text+"x\r\n", api.ErrFrame)
	many := make([]api.Reply, api.MaxCount+2)
	for _, kind := range listKinds {
		for _, n := range []int{api.MaxCount - 2, api.MaxCount, api.MaxCount + 2} {
			want := kindly(kind, many[:n]...)
			s, err := Encode(want, 3)
			if err != api.OK {
				t.Fatalf("%d of kind %d: error %d", n, kind, err)
			}
			if n > api.MaxCount {
				cantDecode(t, s, api.ErrFrame)
				continue
			}
			if r, size, err := Decode(s + "+"); !repliesEqual(r, want) || size != len(s) || err != api.OK {
				t.Errorf("%d of kind %d: error %d", n, kind, err)
			}
			cantDecode(t, s[:len(s)-1], api.ErrShort)
		}
	}
}

// TestP12_4Depth: lists 32 and 33 deep; a null is no list.
func TestP12_4Depth(t *testing.T) {
	for _, mark := range []string{"*1\r\n", "~1\r\n", ">1\r\n", "%1\r\n:0\r\n"} {
		heads := strings.Repeat(mark, 31)
		for _, inmost := range []string{"*0\r\n", "~0\r\n", ">0\r\n", "%0\r\n", "*1\r\n*-1\r\n", "*1\r\n$-1\r\n", "~1\r\n:1\r\n", "%1\r\n*-1\r\n$1\r\na\r\n"} {
			s := heads + inmost
			want, n, err := modelDecode(s)
			if n != len(s) || err != api.OK {
				t.Fatalf("the model: %d, error %d", n, err)
			}
			decodes(t, s, want)
		}
		heads += mark
		cantDecode(t, heads, api.ErrShort)
		for _, s := range []string{"*", "*-", "*-1", "*-1\r"} {
			cantDecode(t, heads+s, api.ErrShort)
		}
		for _, s := range []string{"*0", "*1", "*9", "*x", "*-2", "*\r", "%", "~", ">", "%0\r\n", "~1\r\n", ">0\r\n", "*0\r\n", "*1\r\n:1\r\n"} {
			cantDecode(t, heads+s, api.ErrFrame)
		}
		cantDecode(t, strings.Repeat(mark, 1000), api.ErrFrame)
	}
	r, _ := Encode(nested(api.ReplyArray, 32, api.Reply{Kind: api.ReplyNulls}), 2)
	if got, n, err := Decode(r); !repliesEqual(got, nested(api.ReplyArray, 32, api.Reply{Kind: api.ReplyNulls})) || n != len(r) || err != api.OK {
		t.Errorf("a null 32 deep: %v, %d, error %d", got, n, err)
	}
	if got, n, err := Decode(deepPrefix(32) + ":1\r\n"); !repliesEqual(got, nested(api.ReplyArray, 32, Int(1))) || n != 4*33 || err != api.OK {
		t.Errorf("32 deep: %v, %d, error %d", got, n, err)
	}
}

func decodeAsModel(t *testing.T, s string) {
	t.Helper()
	r, n, err := Decode(s)
	want, m, e := modelDecode(s)
	if !repliesEqual(r, want) || n != m || err != e {
		t.Fatalf("Decode(%q) = %v, %d, error %d, want %v, %d, error %d", s, r, n, err, want, m, e)
	}
}

// TestP12_4All: all texts of up to seven of the bytes that matter, as far as they are beginnings of replies, and one byte more.
func TestP12_4All(t *testing.T) {
	t.Parallel()
	var bytes [7]byte
	var walk func(n int)
	walk = func(n int) {
		s := string(bytes[:n])
		decodeAsModel(t, s)
		if _, _, err := Decode(s); n == len(bytes) || err != api.ErrShort {
			return
		}
		for _, b := range []byte("*%$:_#-01t\r\n") {
			bytes[n] = b
			walk(n + 1)
		}
	}
	walk(0)
}

// reply: one of any kind; whole: one of which P12.5 speaks.
func (m *mix) reply(depth int, whole bool) api.Reply {
	kind := of(m, api.ReplyNull, api.ReplyStatus, api.ReplyError, api.ReplyInt, api.ReplyBulk, api.ReplyBool, api.ReplyNulls, api.ReplyArray, api.ReplyArray, api.ReplyMap, api.ReplySet, api.ReplyPush)
	if !whole && m.below(40) == 0 {
		kind = of(m, -1, 12, api.ReplyNone)
	}
	r := api.Reply{Kind: kind}
	switch kind {
	case api.ReplyStatus, api.ReplyError:
		r.Text = of(m, "", "OK", "ERR a", "\x00\xff", "+", ":1")
		if !whole && m.below(2) == 0 {
			r.Text += of(m, "\r", "\n", "\r\n")
		}
	case api.ReplyBulk:
		r.Text = of(m, "", "a", "abc", "\r\n", ":1\r\n", "$1\r\na\r\n", strings.Repeat("z", m.below(30)))
	case api.ReplyInt:
		r.N = of(m, 0, 1, -1, 10, 11, -11, math.MaxInt, math.MinInt, m.below(1000))
	case api.ReplyBool:
		r.N = m.below(2)
		if !whole {
			r.N = m.below(5) - 2
		}
	case api.ReplyNulls:
		if whole {
			r.Kind = api.ReplyNull
		}
	case api.ReplyArray, api.ReplyMap, api.ReplySet, api.ReplyPush:
		n := m.below(4)
		if depth == 0 {
			n = 0
		}
		if kind == api.ReplyMap && (whole || m.below(10) > 0) {
			n = n / 2 * 2
		}
		for range n {
			r.List = append(r.List, m.reply(depth-1, whole))
		}
	}
	return r
}

// TestP12_3Mixed: replies of all sorts, held against the model.
func TestP12_3Mixed(t *testing.T) {
	t.Parallel()
	m := mix(3)
	wrong := 0
	for range 50000 {
		r, proto := m.reply(4, false), of(&m, 2, 3, 2, 3, 2, 3, m.below(6))
		want, ok := modelEncode(r, proto)
		got, err := Encode(r, proto)
		if got != want || (err == api.OK) != ok || !ok && err != api.ErrArg {
			t.Fatalf("Encode(%v, %d) = %q, error %d, want %q, %v", r, proto, got, err, want, ok)
		}
		if !ok {
			wrong++
		}
	}
	if wrong < 1000 || wrong > 25000 {
		t.Errorf("%d of them can't be written", wrong)
	}
}

// TestP12_4Mixed: replies in both forms, some with a byte that is another one, with one more or less, or cut off.
func TestP12_4Mixed(t *testing.T) {
	t.Parallel()
	m := mix(4)
	for range 60000 {
		s, err := Encode(m.reply(4, false), 2+m.below(2))
		if err != api.OK {
			continue
		}
		for range m.below(4) {
			i := m.below(len(s) + 1)
			b := string([]byte{of[byte](&m, '\r', '\n', '*', '$', ':', '%', '_', '#', '+', '-', '0', '1', '9', 't', 0, byte(m.below(256)))})
			switch m.below(4) {
			case 0:
				s = s[:i] + b + s[i:]
			case 1:
				s = s[:i]
			case 2:
				s = s[:i] + s[min(i+1, len(s)):]
			case 3:
				s = s[:i] + b + s[min(i+1, len(s)):]
			}
		}
		decodeAsModel(t, s+of(&m, "", "", "x", "\r\n", ":1\r\n"))
	}
}

// TestP12_5ThereAndBack: and that no reply's bytes are the beginning of another's.
func TestP12_5ThereAndBack(t *testing.T) {
	t.Parallel()
	m := mix(5)
	all := make(map[string]api.Reply)
	for range 30000 {
		r := m.reply(4, true)
		s, err := Encode(r, 3)
		if err != api.OK {
			t.Fatalf("Encode(%v): error %d", r, err)
		}
		if got, n, err := Decode(s); !repliesEqual(got, r) || n != len(s) || err != api.OK {
			t.Fatalf("Decode(%q) = %v, %d, error %d, want %v", s, got, n, err, r)
		}
		if got, n, err := Decode(s + "\r\n:1"); !repliesEqual(got, r) || n != len(s) || err != api.OK {
			t.Fatalf("Decode(%q and more) = %v, %d, error %d, want %v", s, got, n, err, r)
		}
		if other, ok := all[s]; ok && !repliesEqual(r, other) {
			t.Fatalf("%v and %v are both %q", r, other, s)
		}
		all[s] = r
		for range 3 {
			cantDecode(t, s[:m.below(len(s))], api.ErrShort)
		}
	}
	kinds := make(map[int]int)
	var bytes []string
	for s, r := range all {
		bytes = append(bytes, s)
		kinds[r.Kind]++
	}
	sort.Strings(bytes)
	for i := range len(bytes) - 1 {
		if strings.HasPrefix(bytes[i+1], bytes[i]) {
			t.Errorf("%q is the beginning of %q", bytes[i], bytes[i+1])
		}
	}
	if len(kinds) != 10 {
		t.Errorf("there are %d kinds among them", len(kinds))
	}
}

// TestExamplesOfReplies: example 4 of the chapter.
func TestExamplesOfReplies(t *testing.T) {
	if s, err := Encode(kindly(api.ReplyArray, Int(1), Null()), 2); s != "*2\r\n:1\r\n$-1\r\n" || err != api.OK {
		t.Errorf("%q, error %d", s, err)
	}
	if s, err := Encode(kindly(api.ReplyMap, Bulk("a"), Int(1)), 3); s != "%1\r\n$1\r\na\r\n:1\r\n" || err != api.OK {
		t.Errorf("%q, error %d", s, err)
	}
	if r, n, err := Decode(":1\r\n+"); !repliesEqual(r, Int(1)) || n != 4 || err != api.OK {
		t.Errorf("%v, %d, error %d", r, n, err)
	}
	cantDecode(t, ":01\r\n", api.ErrFrame)
	cantDecode(t, "$3\r\nab", api.ErrShort)
}
