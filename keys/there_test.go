package keys

import (
	"slices"
	"strings"
	"testing"

	"cistern/api"
)

// TestKY1Kinds: what each command tells of a key k that is not there, and of one of each kind (3, 1, 2; the string: 3) that expires at 7000. The clock is 1000.
func TestKY1Kinds(t *testing.T) {
	wrong, all := "-"+wrongType, "[$1 $2 $3]"
	each := func(want string) [5]string { return [5]string{want, want, want, want, want} }
	lists := func(want string) [5]string { return [5]string{wrong, want, want, want, wrong} }
	for _, c := range []struct {
		line, none string
		of         [5]string
	}{
		{"DEL k", ":0", each(":1")}, {"UNLINK k", ":0", each(":1")}, {"EXISTS k", ":0", each(":1")}, {"TOUCH k", ":0", each(":1")}, {"TYPE k", "+none", [5]string{"+string", "+list", "+set", "+zset", "+hash"}},
		{"EXPIRE k 5", ":0", each(":1")}, {"PEXPIRE k 5", ":0", each(":1")}, {"EXPIREAT k 5", ":0", each(":1")}, {"PEXPIREAT k 5", ":0", each(":1")}, {"EXPIRE k 5 NX", ":0", each(":0")}, {"EXPIRE k 5 XX", ":0", each(":1")}, {"EXPIRE k 5 GT", ":0", each(":0")}, {"EXPIRE k 5 LT", ":0", each(":1")},
		{"TTL k", ":-2", each(":6")}, {"PTTL k", ":-2", each(":6000")}, {"EXPIRETIME k", ":-2", each(":7")}, {"PEXPIRETIME k", ":-2", each(":7000")}, {"PERSIST k", ":0", each(":1")},
		{"RENAME k to", "-" + noKey, each("+OK")}, {"RENAME k k", "-" + noKey, each("+OK")}, {"RENAMENX k to", "-" + noKey, each(":1")}, {"RENAMENX k k", "-" + noKey, each(":0")}, {"RENAME other k", "+OK", each("+OK")}, {"RENAMENX other k", ":1", each(":0")},
		{"COPY k to", ":0", each(":1")}, {"COPY k k", "-" + sameOne, each("-" + sameOne)}, {"COPY k k DB 1", ":0", each(":0")}, {"COPY k k DB 1 REPLACE", ":0", each(":1")}, {"COPY other k", ":1", each(":0")}, {"COPY other k REPLACE", ":1", each(":1")}, {"MOVE k 1", ":0", each(":0")}, {"MOVE k 2", ":0", each(":1")},
		{"KEYS k", "[]", each("[$k]")}, {"KEYS *", "[$other]", each("[$k $other]")}, {"SCAN 0 MATCH k", "[$0 []]", each("[$0 [$k]]")}, {"DBSIZE", ":1", each(":2")}, {"RANDOMKEY", "$other", each("$k")}, {"SCAN 0 MATCH k TYPE set", "[$0 []]", [5]string{"[$0 []]", "[$0 []]", "[$0 [$k]]", "[$0 []]", "[$0 []]"}},
		{"OBJECT ENCODING k", "_", [5]string{"$int", "$listpack", "$intset", "$listpack", "$listpack"}}, {"OBJECT IDLETIME k", "_", each(":0")}, {"OBJECT REFCOUNT k", "_", each(":1")}, {"OBJECT FREQ k", "-" + noUses, each("-" + noUses)},
		{"SORT k", "[]", lists(all)}, {"SORT k ALPHA DESC", "[]", lists("[$3 $2 $1]")}, {"SORT k STORE k", ":0", lists(":3")}, {"SORT k STORE other", ":0", lists(":3")}, {"SORT other STORE k", ":2", each(":2")}, {"SORT none STORE k", ":0", each(":0")},
		{"FLUSHDB", "+OK", each("+OK")}, {"FLUSHALL", "+OK", each("+OK")}, {"SWAPDB 0 1", "+OK", each("+OK")},
	} {
		begun(t).want(c.line, c.none)
		for i, kind := range kinds {
			p := begun(t)
			p.give(0, "k", kind, "3", "1", "2")
			p.expire(0, "k", 7000)
			if want := c.of[i]; want[0] == '-' {
				p.refuses(c.line, want[1:])
			} else {
				p.want(c.line, want)
			}
		}
	}
}

// TestKY1Drop: DEL and UNLINK of one key, of many, of the same one twice, of none that is there.
func TestKY1Drop(t *testing.T) {
	for _, name := range []string{"DEL", "UNLINK"} {
		for _, c := range []struct{ keys, want, left string }{
			{"str", ":1", "hash list other set timed zset"}, {"none", ":0", "hash list other set str timed zset"}, {"str list set", ":3", "hash other timed zset"}, {"str str", ":1", "hash list other set timed zset"}, {"none str none list str", ":2", "hash other set timed zset"}, {"timed", ":1", "hash list other set str zset"}, {"elsewhere k", ":0", "hash list other set str timed zset"}, {"zset hash other timed set str list", ":7", ""}, {"''", ":0", "hash list other set str timed zset"},
		} {
			p := withKeys(t)
			p.want(name+" "+c.keys, c.want)
			if got := strings.Join(p.sp.Keys(0), " "); got != c.left {
				t.Errorf("%s %s leaves %s; want %s", name, c.keys, got, c.left)
			}
			if got := strings.Join(p.sp.Keys(1), " "); got != "elsewhere k" {
				t.Errorf("%s %s: database 1 has %s", name, c.keys, got)
			}
		}
		p := begun(t)
		p.give(0, "", api.KindString, "x")
		p.give(0, "a\x00\xff", api.KindString, "x")
		p.wantWords(":2", name, "", "a\x00\xff", "a\x00")
	}
	// A key that goes has no mark and no expiry any more, also if it comes again.
	p := withKeys(t)
	p.want("DEL timed", ":1")
	if p.sp.Mark(0, "timed") != 0 {
		t.Error("timed has a mark")
	}
	p.give(0, "timed", api.KindString, "x")
	p.want("TTL timed", ":-1")
}

// TestKY1Exists: EXISTS counts words and uses nothing; TOUCH counts them too, and uses each, one after the other.
func TestKY1Exists(t *testing.T) {
	const before = "hash=1 list=4 other=8 set=3 str=5 timed=0 zset=2"
	for _, c := range []struct{ keys, want, touched string }{
		{"str", ":1", "hash=2 list=5 other=9 set=4 str=0 timed=1 zset=3"}, {"none", ":0", before}, {"str none list", ":2", "hash=3 list=0 other=10 set=5 str=1 timed=2 zset=4"}, {"str str", ":2", "hash=3 list=6 other=10 set=5 str=0 timed=2 zset=4"}, {"str list str", ":3", "hash=4 list=1 other=11 set=6 str=0 timed=3 zset=5"}, {"elsewhere k", ":0", before}, {"timed", ":1", "hash=2 list=5 other=9 set=4 str=6 timed=0 zset=3"},
	} {
		p := withKeys(t)
		if got := p.uses(0); got != before {
			t.Fatalf("at first: %s", got)
		}
		p.keeps(c.want, split("EXISTS "+c.keys)...)
		if got := p.uses(0); got != before {
			t.Errorf("EXISTS %s: %s; want %s", c.keys, got, before)
		}
		p.keeps(c.want, split("TOUCH "+c.keys)...)
		if got := p.uses(0); got != c.touched {
			t.Errorf("TOUCH %s: %s; want %s", c.keys, got, c.touched)
		}
	}
	p := withKeys(t)
	p.wantWords(":150000", append([]string{"EXISTS"}, slices.Repeat([]string{"list", "none", "set"}, 75000)...)...)
	p.wantWords(":150000", append([]string{"TOUCH"}, slices.Repeat([]string{"list", "none", "set"}, 75000)...)...)
}

// TestKY1Type: TYPE of each kind, however it is kept, and of none; it is a status, and nothing is used.
func TestKY1Type(t *testing.T) {
	for _, limits := range allLimits() {
		p := newTrial(t, limits)
		for i, want := range []string{"string", "list", "set", "zset", "hash"} {
			p.give(0, want, kinds[i], "3", "1", "2", "a long one that is no number", "x")
			uses := p.uses(0)
			p.keeps("+"+want, "TYPE", want)
			if got := p.uses(0); got != uses {
				t.Errorf("TYPE %s: %s; want %s", want, got, uses)
			}
		}
		p.keeps("+none", "TYPE", "none")
		p.keeps("+none", "TYPE", "")
		if r := Do(p.sp, 0, []string{"TYPE", "list"}); r.Kind != api.ReplyStatus {
			t.Errorf("TYPE list: %+v", r)
		}
	}
}

// TestKY1Object: each word of OBJECT in any letters, of keys that are there and are not, and others; nothing is used by it.
func TestKY1Object(t *testing.T) {
	p := withKeys(t)
	p.give(0, "embedded", api.KindString, "text")
	p.give(0, "raw", api.KindString, strings.Repeat("r", 45))
	p.give(0, "nodes", api.KindList, "1", "2", "3", "4", "5")
	p.give(0, "pack", api.KindSet, "1", "x")
	p.give(0, "table", api.KindSet, "1", "2", "3", "4", "5")
	p.give(0, "skips", api.KindZset, "1", "2", "3", "4", "5")
	p.give(0, "fields", api.KindHash, "nine....9")
	uses := p.uses(0)
	for i, c := range []struct{ key, encoding string }{
		{"fields", "hashtable"}, {"skips", "skiplist"}, {"table", "hashtable"}, {"pack", "listpack"}, {"nodes", "quicklist"}, {"raw", "raw"}, {"embedded", "embstr"}, {"timed", "embstr"}, {"hash", "listpack"}, {"zset", "listpack"}, {"set", "intset"}, {"list", "listpack"}, {"str", "int"},
	} {
		for _, word := range []string{"encoding", "ENCODING", "eNcOdInG"} {
			p.keeps("$"+c.encoding, "OBJECT", word, c.key)
		}
		for _, word := range []string{"idletime", "IDLETIME", "iDlEtImE"} {
			p.keeps(told(number(i)), "OBJECT", word, c.key)
		}
		for _, word := range []string{"refcount", "REFCOUNT", "RefCount"} {
			p.keeps(":1", "OBJECT", word, c.key)
		}
		for _, word := range []string{"freq", "FREQ", "Freq"} {
			p.refusesWords(noUses, "OBJECT", word, c.key)
		}
		for _, word := range []string{"", "ENCODINGS", "ENCODIN", "HELP", "KEY", "IDLE TIME", c.key} {
			p.refusesWords(syntax, "OBJECT", word, c.key)
		}
	}
	for _, word := range []string{"ENCODING", "idletime", "RefCount"} {
		p.keeps("_", "OBJECT", word, "none")
		p.keeps("_", "OBJECT", word, "elsewhere")
	}
	p.refuses("OBJECT FREQ none", noUses)
	p.refuses("OBJECT BOGUS none", syntax)
	if got := p.uses(0); got != uses {
		t.Errorf("behind OBJECT: %s; want %s", got, uses)
	}
}

// TestKY1Idle: OBJECT IDLETIME behind a while: how many uses there were since the key's last one, of keys of any database.
func TestKY1Idle(t *testing.T) {
	p := withKeys(t)
	p.want("OBJECT IDLETIME str", ":5")
	p.advance(100)
	p.want("OBJECT IDLETIME str", ":5")
	p.want("TOUCH list list", ":2")
	p.want("OBJECT IDLETIME str", ":7")
	p.wantIn(1, "TOUCH k", ":1")
	p.want("OBJECT IDLETIME str", ":8")
	p.want("EXISTS str list", ":2")
	p.want("TYPE str", "+string")
	p.want("OBJECT IDLETIME str", ":8")
	p.want("DEL hash", ":1")
	p.want("OBJECT IDLETIME str", ":8")
	p.want("SORT list", "[$1 $2 $3]")
	p.want("OBJECT IDLETIME str", ":9")
	p.want("TOUCH str", ":1")
	p.want("OBJECT IDLETIME str", ":0")
	p.want("OBJECT IDLETIME list", ":1")
}
