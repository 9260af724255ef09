package table

import (
	"slices"
	"strconv"
	"strings"
	"testing"

	"cistern/api"
)

func checkKeys(t *testing.T, line string, want string, wantErr api.Errno) {
	t.Helper()
	args := strings.Split(line, " ")
	var list []string
	if want != "" {
		list = strings.Split(want, " ")
	}
	got, e := Keys(args)
	if e != wantErr || !slices.Equal(got, list) || e != api.OK && got != nil {
		t.Errorf("Keys(%q) = %q, %d; want %q, %d", args, got, e, list, wantErr)
	}
}

// TestTA3Examples: the chapter's examples of Keys.
func TestTA3Examples(t *testing.T) {
	checkKeys(t, "mset a 1 b 2", "a b", api.OK)
	checkKeys(t, "zunionstore d 2 a b weights 1 2", "d a b", api.OK)
	checkKeys(t, "sintercard 3 a b", "", api.ErrNumber)
}

// TestTA3Places: keys whose places the table tells.
func TestTA3Places(t *testing.T) {
	for line, want := range map[string]string{
		"ping": "", "ping a": "", "echo a": "", "keys a": "", "scan 0 match a": "", "publish c a": "", "subscribe a b": "", "select 1": "", "flushall": "", "swapdb 0 1": "", "memory usage a": "", "config get a": "", "client list": "",
		"get a": "a", "GET a": "a", "Get GET": "GET", "set a 1 ex 5": "a", "append a b": "a", "sort a store b": "a", "restore a 0 x replace": "a", "lpush a b c d": "a", "hset h f 1 g 2": "h", "zadd z 1 a 2 b": "z", "getex a": "a",
		"del a": "a", "del a b": "a b", "DEL c b a": "c b a", "unlink a b c d": "a b c d", "exists a a a": "a a a", "mget a": "a", "mget b a b": "b a b", "watch a b": "a b", "touch a b": "a b", "sunionstore d a b": "d a b", "sdiff a b c": "a b c",
		"rename a b": "a b", "renamenx a a": "a a", "copy a b": "a b", "copy a b db 1 replace": "a b", "lmove a b left right": "a b", "rpoplpush a b": "a b", "smove a b c": "a b", "zrangestore d s 0 -1": "d s", "zrangestore d s 0 -1 byscore rev": "d s",
		"mset a 1": "a", "mset a 1 b": "a b", "mset a 1 b 2 c": "a b c", "msetnx a 1 a 2": "a a", "MSETNX a 1 b 2 a 3": "a b a",
		"object encoding a": "a", "object a b": "b", "bitop and d a": "d a", "bitop and d a b c": "d a b c", "bitop not d d": "d d",
	} {
		checkKeys(t, line, want, api.OK)
	}
}

// TestTA3Counted: keys behind a word that tells their number.
func TestTA3Counted(t *testing.T) {
	for line, want := range map[string]string{
		"sintercard 1 a": "a", "sintercard 2 a b": "a b", "sintercard 1 a b": "a", "sintercard 2 a b limit 1": "a b", "sintercard 4 a b limit 1": "a b limit 1", "sintercard 2 a a": "a a", "SINTERCARD 1 1": "1",
		"lmpop 1 a left": "a", "lmpop 2 a b right": "a b", "lmpop 3 a b right": "a b right", "zunion 1 a withscores": "a", "zinter 2 b a": "b a", "zdiff 2 a b": "a b", "zintercard 2 a b limit 2": "a b",
		"zunionstore d 1 a": "d a", "zunionstore d 2 a b": "d a b", "zinterstore d 2 d d": "d d d", "zdiffstore 2 1 a": "2 a", "zdiffstore 1 2 2 2": "1 2 2", "ZUNIONSTORE d 1 a b c": "d a",
		"sintercard 10 1 2 3 4 5 6 7 8 9 10": "1 2 3 4 5 6 7 8 9 10", "sintercard 10 1 2 3 4 5 6 7 8 9 10 11": "1 2 3 4 5 6 7 8 9 10",
	} {
		checkKeys(t, line, want, api.OK)
	}
	for _, line := range []string{"sintercard 0 a", "sintercard 2 a", "sintercard 10 1 2 3 4 5 6 7 8 9", "sintercard 11 1 2 3 4 5 6 7 8 9 10", "lmpop 3 a left", "zunionstore d 0 a", "zunionstore d 2 a", "zunionstore d x a", "zunionstore 1 d a"} {
		checkKeys(t, line, "", api.ErrNumber)
	}
}

// notCounts are texts that are no count of any words.
func notCounts() []string {
	return []string{
		"", "0", "00", "000", "01", "02", "001", "+1", "-1", "-0", "+0", "--1", " 1", "1 ", " ", "1\n", "\t1", "1\x00", "\x001", "1.0", "1.", "1e0", "1e1", "0x1", "1_0", "1,0", "a", "one", "1a", "a1", "-", "+", "/", ":", "1:", "1/", ":1", "\xb1", "\xff", "１", "\xd9\xa1", "²",
		"2147483647", "2147483648", "4294967296", "4294967297", "9007199254740993", "9223372036854775807", "9223372036854775808", "9223372036854775809", "-9223372036854775808", "18446744073709551615", "18446744073709551616", "18446744073709551617", "36893488147419103233",
		"1" + strings.Repeat("0", 64), strings.Repeat("1", 1000), strings.Repeat("9", api.MaxElement), strings.Repeat("0", 1000) + "1", "340282366920938463463374607431768211457",
	}
}

// counting are the commands whose keys a word counts.
func counting(t *testing.T) []api.Spec {
	var list []api.Spec
	for _, s := range chapterSpecs(t) {
		if s.Count > 0 {
			list = append(list, s)
		}
	}
	if len(list) != 9 {
		t.Fatalf("%d commands count keys", len(list))
	}
	return list
}

// TestTA3Counts: each command that counts its keys, with each count about as many words as stand behind it, and with texts that are no counts.
func TestTA3Counts(t *testing.T) {
	m := newModel(t)
	for _, s := range counting(t) {
		for total := s.Least; total < s.Least+12; total++ {
			args := words(s.Name, total)
			behind := total - s.Count - 1
			for n := range behind + 3 {
				args[s.Count] = strconv.Itoa(n)
				keys, e := Keys(args)
				if ok := n >= 1 && n <= behind; ok != (e == api.OK) || !ok && e != api.ErrNumber {
					t.Errorf("%q: %d", args, e)
				} else if want := n + s.Count - 1; ok && len(keys) != want || !ok && keys != nil {
					t.Errorf("%q: %q", args, keys)
				}
				m.hold(t, args)
			}
			for _, text := range notCounts() {
				args[s.Count] = text
				if keys, e := Keys(args); keys != nil || e != api.ErrNumber {
					t.Errorf("%.200q: %.200q, %d", args, keys, e)
				}
				m.hold(t, args)
			}
		}
	}
}

// TestTA3CountBytes: each byte as a count, alone and beside a digit.
func TestTA3CountBytes(t *testing.T) {
	m := newModel(t)
	args := words("zunion", 150)
	for b := range 256 {
		c := string([]byte{byte(b)})
		for _, text := range []string{c, "1" + c, c + "1", c + c, "1" + c + "0"} {
			args[1] = text
			m.hold(t, args)
		}
	}
}

// TestTA3Errors: the errors of Check, without keys beside them.
func TestTA3Errors(t *testing.T) {
	for _, c := range []struct {
		args []string
		want api.Errno
	}{
		{nil, api.ErrCommand}, {[]string{}, api.ErrCommand}, {[]string{""}, api.ErrCommand}, {[]string{"fly", "a"}, api.ErrCommand}, {[]string{"", "a", "b"}, api.ErrCommand}, {[]string{"get ", "a"}, api.ErrCommand},
		{[]string{"get"}, api.ErrArity}, {[]string{"get", "a", "b"}, api.ErrArity}, {[]string{"GET"}, api.ErrArity}, {[]string{"mset", "a"}, api.ErrArity}, {[]string{"del"}, api.ErrArity}, {[]string{"copy", "a"}, api.ErrArity}, {[]string{"copy", "a", "b", "c", "d", "e", "f"}, api.ErrArity}, {[]string{"bitop", "and", "d"}, api.ErrArity},
		{[]string{"sintercard"}, api.ErrArity}, {[]string{"sintercard", "1"}, api.ErrArity}, {[]string{"sintercard", "x"}, api.ErrArity}, {[]string{"lmpop", "x", "a"}, api.ErrArity}, {[]string{"zunionstore", "d", "0"}, api.ErrArity}, {[]string{"zunionstore", "d"}, api.ErrArity}, {[]string{"ping", "a", "b"}, api.ErrArity},
	} {
		if keys, e := Keys(c.args); keys != nil || e != c.want {
			t.Errorf("Keys(%q) = %q, %d; want %d", c.args, keys, e, c.want)
		}
	}
	for _, s := range chapterSpecs(t) {
		if keys, e := Keys(words(s.Name, s.Least-1)); keys != nil || e != Check(words(s.Name, s.Least-1)) || e == api.OK {
			t.Errorf("%s, too few: %q, %d", s.Name, keys, e)
		}
		if s.Most >= 0 {
			if keys, e := Keys(words(s.Name, s.Most+1)); keys != nil || e != api.ErrArity {
				t.Errorf("%s, too many: %q, %d", s.Name, keys, e)
			}
		}
	}
}

// TestTA3Behind: Last behind the last word, Steps that pass it, and First behind it, which no row of the table leads to.
func TestTA3Behind(t *testing.T) {
	for first := range 5 {
		for last := -4; last < 12; last++ {
			for step := 1; step < 5; step++ {
				for n := 1; n < 9; n++ {
					s := api.Spec{Name: "x", Least: 1, Most: -1, First: first, Last: last, Step: step}
					args := words("x", n)
					want, _ := modelKeys(s, args)
					if got, e := keysOf(s, args); e != api.OK || !slices.Equal(got, want) {
						t.Errorf("%+v with %d words: %q, %d; want %q", s, n, got, e, want)
					}
				}
			}
		}
	}
	s := api.Spec{Name: "x", First: 1, Last: 9, Step: 1}
	if got, e := keysOf(s, []string{"x", "a", "b"}); e != api.OK || !slices.Equal(got, []string{"a", "b"}) {
		t.Errorf("%q, %d", got, e)
	}
}

// TestTA5Words: keys are words behind the first one, of each command with all numbers of words, in their order.
func TestTA5Words(t *testing.T) {
	m := newModel(t)
	for _, s := range chapterSpecs(t) {
		for n := range 20 {
			args := words(strings.ToUpper(s.Name), n)
			m.hold(t, args)
			keys, _ := Keys(args)
			before := 0
			for _, key := range keys {
				at := slices.Index(args, key)
				if at <= before {
					t.Errorf("Keys(%q) = %q", args, keys)
				}
				before = at
			}
		}
	}
}

// TestTA3Many: as many keys as a request has words.
func TestTA3Many(t *testing.T) {
	t.Parallel()
	args := words("del", api.MaxArgs)
	if keys, e := Keys(args); e != api.OK || !slices.Equal(keys, args[1:]) {
		t.Errorf("del: %d keys, %d", len(keys), e)
	}
	args[0] = "mset"
	if keys, e := Keys(args); e != api.OK || len(keys) != api.MaxArgs/2 || keys[len(keys)-1] != args[len(args)-1] {
		t.Errorf("mset: %d keys, %d", len(keys), e)
	}
	args[0] = "zunion"
	for _, n := range []int{1, 10, 1 << 10, api.MaxArgs - 3, api.MaxArgs - 2} {
		args[1] = strconv.Itoa(n)
		if keys, e := Keys(args); e != api.OK || !slices.Equal(keys, args[2:2+n]) {
			t.Errorf("zunion %d: %d keys, %d", n, len(keys), e)
		}
	}
	args[1] = strconv.Itoa(api.MaxArgs - 1)
	if keys, e := Keys(args); e != api.ErrNumber || keys != nil {
		t.Errorf("zunion: %d keys, %d", len(keys), e)
	}
}
