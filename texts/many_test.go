package texts

import (
	"fmt"
	"strings"
	"testing"

	"cistern/api"
	"cistern/keyspace"
)

// TestP14_1Pairs: an odd number of words, told with the command's name in small letters; ahead of all else.
func TestP14_1Pairs(t *testing.T) {
	long := strings.Repeat("v", api.MaxElement+1)
	for _, name := range []string{"MSET", "mset", "MsEt", "MSETNX", "msetnx"} {
		p := begun(t)
		p.want("SET a old", "+OK")
		p.refuses(name+" a 1 b", badPairs(strings.ToLower(name)))
		p.refuses(name+" b 1 b 2 b", badPairs(strings.ToLower(name)))
		p.refusesWords(badPairs(strings.ToLower(name)), name, "a", long, "b")
		p.refuses(name+" a", unknown)
		p.refuses(name, unknown)
	}
}

// TestP14_1MSet: keys that are there and that are not, of all kinds, twice.
func TestP14_1MSet(t *testing.T) {
	for _, b := range before {
		p := begun(t)
		b.give(p)
		p.want("MSET k 1 other 2 new 3", "+OK")
		p.want("MGET k other new none", "*$1 $2 $3 _")
		p.want("MSET k 1 k 2 k 3", "+OK")
		p.want("GET k", "$3")
		p.want("MSET '' '' k ''", "+OK")
		p.want("MGET '' k", "*$ $")
	}
}

// TestP14_1MSetNX: none is written where one is there, of whatever kind; the first that is there ends the looking.
func TestP14_1MSetNX(t *testing.T) {
	for _, kind := range kinds {
		p := begun(t)
		p.give(0, "k", kind)
		p.give(0, "l", kind)
		p.want("MSETNX a 1 k 2 l 3", ":0")
		p.want("MSETNX k 1 a 2", ":0")
		p.want("MGET a none", "*_ _")
		if k, l := p.sp.Idle(0, "k"), p.sp.Idle(0, "l"); k != 0 || l != 2 {
			t.Errorf("idle %d, %d", k, l)
		}
		p.want("MSETNX a 1 b 2", ":1")
		p.want("MGET a b", "*$1 $2")
		p.want("MSETNX c 1 c 2", ":1")
		p.want("GET c", "$2")
	}
}

// TestP14_1MSetLong: keys of MaxKey and values of MaxElement bytes, and one byte more, at any place; none is written then.
func TestP14_1MSetLong(t *testing.T) {
	text, key := strings.Repeat("v", api.MaxElement), strings.Repeat("k", api.MaxKey)
	for _, name := range []string{"MSET", "MSETNX"} {
		p := begun(t)
		p.refusesWords(tooLarge, name, "a", text+"v")
		p.refusesWords(tooLarge, name, key+"k", "1")
		p.refusesWords(tooLarge, name, "a", "1", "b", text+"v")
		p.refusesWords(tooLarge, name, "a", "1", key+"k", "2")
		p.refusesWords(tooLarge, name, "a", text+"v", "b", "2")
		p.refusesWords(tooLarge, name, key+"k", text+"v", "b", "2")
		p.ask(name, "a", text, key, "2")
		if p.sp.Len(0) != 3 {
			t.Errorf("%s: %d keys", name, p.sp.Len(0))
		}
	}
	p := begun(t)
	p.want("SET a 1", "+OK")
	if got := p.ask("MSETNX", "b", text+"v", "a", "2"); got != ":0" {
		t.Errorf("MSETNX of a key that is there: %s", short(got))
	}
}

// full is a space of as many keys as there may be, but for some, in two databases.
func full(t *testing.T, but int) *keyspace.Space {
	t.Helper()
	sp, _ := keyspace.New(config())
	v := holding(api.KindString)
	for i := range api.MaxKeys - but {
		if e := sp.Put(i%2, fmt.Sprint("k", i/2), v); e != api.OK {
			t.Fatalf("Put: error %d", e)
		}
	}
	return sp
}

// TestP14_1Full: as many keys as there may be: what is there may be written anew, what is not, not.
func TestP14_1Full(t *testing.T) {
	sp := full(t, 2)
	want := func(words, want string) {
		t.Helper()
		before, mark := sp.Len(-1), sp.Mark(0, "k0")
		if got := told(Do(sp, 0, split(words))); got != want {
			t.Errorf("%s: %s; want %s", words, got, want)
		}
		if strings.HasPrefix(want, "-") && (sp.Len(-1) != before || sp.Mark(0, "k0") != mark) {
			t.Errorf("%s was refused, and has changed something", words)
		}
	}
	want("MSET k0 1 a 1 b 1 c 1", "-"+tooMany)
	want("MSETNX a 1 b 1 c 1", "-"+tooMany)
	want("MSETNX a 1 b 1 c 1 k0 1", ":0")
	want("MSET a 1 b 1 a 2 b 2 k0 1 k1 1", "+OK")
	want("MGET a b k0", "*$2 $2 $1")
	want("MSET k0 1 b 2 k2 3", "+OK")
	want("MSET k0 2 d 1", "-"+tooMany)
	want("MSETNX d 1", "-"+tooMany)
	want("SET d 1", "-"+tooMany)
	want("SET d 1 NX GET EX 5", "-"+tooMany)
	want("SET d 1 XX", "_")
	want("SETNX d 1", "-"+tooMany)
	want("SETEX d 5 1", "-"+tooMany)
	want("PSETEX d 5 1", "-"+tooMany)
	want("GETSET d 1", "-"+tooMany)
	want("APPEND d 1", "-"+tooMany)
	want("INCR d", "-"+tooMany)
	want("DECRBY d 5", "-"+tooMany)
	want("SETRANGE d 1 x", "-"+tooMany)
	want("SETRANGE d 1 ''", ":0")
	want("SETBIT d 1 1", "-"+tooMany)
	want("BITOP NOT d k0", "-"+tooMany)
	want("BITOP NOT d d", ":0")
	want("SET k0 5 KEEPTTL", "+OK")
	want("INCR k0", ":6")
	want("APPEND k0 1", ":2")
	want("BITOP OR k1 k0 k2", ":2")
	want("GETDEL k9", "$text")
	want("SET d 1", "+OK")
	want("SET e 1", "-"+tooMany)
	if sp.Len(-1) != api.MaxKeys {
		t.Errorf("%d keys", sp.Len(-1))
	}
}

// TestP14_1MSetAll: as many pairs as there may be keys, and one more.
func TestP14_1MSetAll(t *testing.T) {
	args := []string{"mset"}
	for i := range api.MaxKeys + 1 {
		args = append(args, fmt.Sprint(i), "v")
	}
	for _, name := range []string{"mset", "msetnx"} {
		sp, _ := keyspace.New(config())
		args[0] = name
		if got := told(Do(sp, 1, args)); got != "-"+tooMany || sp.Len(-1) != 0 {
			t.Errorf("%s of one too many: %s, %d keys", name, got, sp.Len(-1))
		}
		if got := told(Do(sp, 1, args[:len(args)-2])); got != "+OK" && got != ":1" || sp.Len(1) != api.MaxKeys {
			t.Errorf("%s of all: %s, %d keys", name, got, sp.Len(1))
		}
	}
}

// TestP14_1MGet: keys of all kinds, one twice, in their order; each is looked at.
func TestP14_1MGet(t *testing.T) {
	p := begun(t)
	for i, kind := range kinds {
		p.give(0, fmt.Sprint("k", i), kind)
	}
	p.want("MGET k0", "*$text")
	p.want("MGET none", "*_")
	p.want("MGET k4 k0 none k1 k0 k2 k3", "*_ $text _ _ $text _ _")
	for key, idle := range map[string]int{"k3": 0, "k2": 1, "k0": 2, "k1": 3, "k4": 5} {
		if got := p.sp.Idle(0, key); got != idle {
			t.Errorf("idle of %s: %d; want %d", key, got, idle)
		}
	}
}

// TestP14_3MSet: MSET holds what SETs of its pairs hold.
func TestP14_3MSet(t *testing.T) {
	m := mix(3)
	for range 300 {
		one, other := begun(t), begun(t)
		for _, key := range []string{"a", "b", "c"} {
			kind := kinds[m.below(len(kinds))]
			one.give(0, key, kind)
			other.give(0, key, kind)
			at := 1001 + m.below(50)
			one.expire(0, key, at)
			other.expire(0, key, at)
		}
		args := []string{"MSET"}
		for range 1 + m.below(6) {
			key, text := pick(&m, "a", "b", "c", "d", "e", ""), pick(&m, "", "1", "x", strings.Repeat("y", 50))
			args = append(args, key, text)
			other.ask("SET", key, text)
		}
		if got := one.ask(args...); got != "+OK" || one.unused() != other.unused() {
			t.Errorf("%q: %s\n%sSETs one by one:\n%s", args, got, one.unused(), other.unused())
		}
	}
}

// TestP14_3MGet: MGET tells what GETs tell, null in the place of an error, and uses the keys alike.
func TestP14_3MGet(t *testing.T) {
	m := mix(4)
	for range 300 {
		p := begun(t)
		for _, key := range []string{"a", "b", "c", "d"} {
			p.give(0, key, kinds[m.below(len(kinds))])
		}
		other := p.sp.Clone()
		args, want := []string{"MGET"}, []string{}
		for range 1 + m.below(8) {
			key := pick(&m, "a", "b", "c", "d", "none")
			args = append(args, key)
			one := told(Do(other, 0, []string{"GET", key}))
			if strings.HasPrefix(one, "-") {
				one = "_"
			}
			want = append(want, one)
		}
		if got := p.ask(args...); got != "*"+strings.Join(want, " ") {
			t.Errorf("%q: %s; want %q", args, got, want)
		}
		for _, key := range []string{"a", "b", "c", "d"} {
			if p.sp.Idle(0, key) != other.Idle(0, key) {
				t.Errorf("%q: idle of %s is %d; by GETs %d", args, key, p.sp.Idle(0, key), other.Idle(0, key))
			}
		}
	}
}
