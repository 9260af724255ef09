package keys

import (
	"slices"
	"strings"
	"testing"

	"cistern/api"
	"cistern/keyspace"
	"cistern/lists"
	"cistern/table"
	"cistern/texts"
)

// mixed writes every other letter great.
func mixed(name string) string {
	b := []byte(strings.ToLower(name))
	for i := 1; i < len(b); i += 2 {
		if 'a' <= b[i] && b[i] <= 'z' {
			b[i] -= 'a' - 'A'
		}
	}
	return string(b)
}

// TestExamples: the chapter's examples. (In its last one a has another name by then; the word behind the number is told ahead of that.)
func TestExamples(t *testing.T) {
	for _, limits := range allLimits() {
		sp := newSpace(limits)
		for _, c := range []struct {
			do         func(sp *keyspace.Space, db int, args []string) api.Reply
			line, want string
		}{
			{texts.Do, "SET a 1", "+OK"},
			{Do, "EXPIRE a 10", ":1"},
			{Do, "TTL a", ":10"},
			{Do, "EXPIRE a 5 GT", ":0"},
			{Do, "PERSIST a", ":1"},
			{Do, "TTL a", ":-1"},
			{Do, "COPY a b", ":1"},
			{Do, "RENAMENX a b", ":0"},
			{Do, "RENAME a c", "+OK"},
			{Do, "EXISTS a c c", ":2"},
			{Do, "MOVE c 99", "-ERR DB index is out of range"},
			{lists.Do, "RPUSH l 3 1 2", ":3"},
			{Do, "SORT l DESC LIMIT 0 2", "[$3 $2]"},
			{Do, "SORT l STORE m", ":3"},
			{Do, "EXPIRE a 1 ZZ", "-ERR Unsupported option ZZ"},
		} {
			if got := told(c.do(sp, 0, split(c.line))); got != c.want {
				t.Errorf("%s: %s; want %s", c.line, got, c.want)
			}
		}
		if got := told(lists.Do(sp, 0, split("LRANGE m 0 -1"))); got != "[$1 $2 $3]" {
			t.Errorf("m is %s", got)
		}
	}
	sp := newSpace(someLimits())
	lists.Do(sp, 0, split("RPUSH l 3 1 2"))
	if got := told(Do(sp, 0, split("OBJECT ENCODING l"))); got != "$listpack" {
		t.Errorf("OBJECT ENCODING l: %s", got)
	}
}

// TestKY1Names: the rows' names, rising, each once; the list is the caller's.
func TestKY1Names(t *testing.T) {
	want := []string{"copy", "dbsize", "del", "exists", "expire", "expireat", "expiretime", "flushall", "flushdb", "keys", "move", "object", "persist", "pexpire", "pexpireat", "pexpiretime", "pttl", "randomkey", "rename", "renamenx", "scan", "sort", "swapdb", "touch", "ttl", "type", "unlink"}
	got := Names()
	if !slices.Equal(got, want) {
		t.Fatalf("Names() = %q; want %q", got, want)
	}
	all := got[:cap(got)]
	for i := range all {
		all[i] = "spoilt"
	}
	_ = append(got[:0], "more")
	if again := Names(); !slices.Equal(again, want) {
		t.Errorf("Names() = %q behind work on an earlier answer", again)
	}
	var rows []string
	for _, r := range chapter() {
		rows = append(rows, r.name)
		spec, ok := table.Find(r.name)
		if !ok || spec.Least != r.least || spec.Most != r.most {
			t.Errorf("%s takes %d to %d words; the table says %d to %d", r.name, r.least, r.most, spec.Least, spec.Most)
		}
	}
	slices.Sort(rows)
	if !slices.Equal(rows, want) {
		t.Errorf("the rows are %q", rows)
	}
}

// samples are lines of each command that are not refused with the keys of withKeys.
func samples() []string {
	return []string{
		"del str", "del list none set", "unlink zset zset", "exists str none str", "touch str none hash", "type zset", "type none",
		"expire str 10", "expire timed 10 gt", "expire timed 1 lt", "expire none 10 nx", "expire str -1", "pexpire str 10 nx", "pexpire timed 10 xx", "expireat str 10", "expireat timed 1", "expireat str 10 gt", "pexpireat str 2500", "pexpireat timed 2500 lt",
		"ttl str", "ttl timed", "ttl none", "pttl timed", "pttl none", "expiretime timed", "expiretime str", "pexpiretime timed", "pexpiretime none", "persist timed", "persist str", "persist none",
		"rename str new", "rename timed list", "rename hash hash", "renamenx timed new", "renamenx str list", "renamenx set set",
		"copy timed new", "copy list new replace", "copy str list", "copy str list replace", "copy timed timed db 1", "copy str k replace db 1", "copy str k db 1 replace", "copy none new", "copy set new db 0", "move str 1", "move none 1", "move timed 2",
		"keys *", "keys [a-m]*", "keys none", "scan 0", "scan 0 match *s*", "scan 0 count 100 type string", "scan 0 type zset count 100 match *", "scan 3 type none", "randomkey", "object encoding set", "object idletime str", "object refcount hash", "object encoding none",
		"sort list", "sort set desc", "sort zset alpha", "sort list limit 1 1 asc", "sort list store new", "sort set store timed desc limit 0 2", "sort none store list", "sort none", "dbsize", "flushdb", "flushdb async", "flushdb sync", "flushall", "flushall async", "flushall sync", "swapdb 0 1", "swapdb 2 2",
	}
}

// optionWords are all words that are options, or part of one.
func optionWords() []string {
	return strings.Fields("nx xx gt lt db replace match count type string zset none encoding idletime refcount limit asc desc alpha store async sync")
}

// TestKY1Letters: a name in small, great and mixed letters does the same, and so do the option words.
func TestKY1Letters(t *testing.T) {
	done := map[string]int{}
	for _, sample := range samples() {
		var first string
		for i, spelt := range []func(string) string{strings.ToLower, strings.ToUpper, mixed} {
			p := withKeys(t)
			args := strings.Fields(sample)
			done[args[0]]++
			for j, word := range args {
				if j == 0 || slices.Contains(optionWords(), word) && (j > 1 || args[0] == "object" || strings.HasPrefix(args[0], "flush")) {
					args[j] = spelt(word)
				}
			}
			if args[0] == spelt("object") { // its key stands behind its word
				args[2] = strings.ToLower(args[2])
			}
			got := p.ask(args...) + "\n" + p.unused() + p.uses(0) + p.uses(1)
			if i == 0 {
				first = got
			}
			if got != first || strings.HasPrefix(got, "-") {
				t.Errorf("%q: %s; want %s", args, got, first)
			}
		}
	}
	for _, name := range Names() {
		if done[name] == 0 {
			t.Errorf("no sample of %s", name)
		}
	}
}

// TestKY1OtherLetters: letters of the world that are near those of a word are none of it.
func TestKY1OtherLetters(t *testing.T) {
	p := withKeys(t)
	for _, words := range []string{"COPY str new D\u0392", "COPY str new REPLA\u00c7E", "SCAN 0 M\u00c4TCH a", "SCAN 0 T\u00ddPE string", "SCAN 0 \u0421OUNT 1", "OBJECT \u0130DLETIME str", "OBJECT IDLET\u0131ME str", "OBJECT \u017ftring str", "SORT list A\u017fC", "SORT list DE\u017fC", "SORT list L\u0130MIT 0 1", "SORT list \u017fTORE new", "FLUSHDB A\u017fYNC", "FLUSHALL \u017fync"} {
		p.refuses(words, syntax)
	}
	p.refuses("EXPIRE str 1 \u0145X", noOption+"\u0145X")
	p.refuses("EXPIRE str 1 \u0141T", noOption+"\u0141T")
	p.want("SCAN 0 COUNT 100 TYPE \u017ftring", "[$0 []]")
	p.want("SCAN 0 COUNT 100 TYPE l\u0131st", "[$0 []]")
	for _, words := range []string{"\u00d0EL str", "EXI\u017fTS str", "\u0130NFO str", "PERS\u0130ST str", "\u212aEYS *", "\u017fCAN 0"} {
		p.refuses(words, unknown)
	}
}

// TestKY1None: no words, names that are none, and the commands of other layers, dump and restore among them.
func TestKY1None(t *testing.T) {
	p := withKeys(t)
	p.refusesWords(unknown)
	if r := Do(p.sp, 0, nil); !same(r, api.Reply{Kind: api.ReplyError, Text: unknown}) {
		t.Errorf("no words: %+v", r)
	}
	names := []string{"", " ", "fly", "de", "dele", " del", "del ", "del\x00", "d\xe8l", "ttls", "expired", "expireattime", "ppersist", "renamex", "sort_ro", "flush", "swap", "scans", "key", "randomkeys", "objects", "types", "touches", strings.Repeat("type", 1000)}
	for _, name := range table.All() {
		if !slices.Contains(Names(), name) {
			names = append(names, name, strings.ToUpper(name))
		}
	}
	for _, name := range []string{"dump", "restore", "select", "set", "get", "lpush", "hset", "zadd", "sadd", "sscan", "save", "multi"} {
		if !slices.Contains(names, name) {
			t.Errorf("%s is a name of this layer, or none of the table", name)
		}
	}
	for _, name := range names {
		p.refusesWords(unknown, name)
		p.refusesWords(unknown, name, "str")
		p.refusesWords(unknown, name, "str", "1")
		p.refusesWords(unknown, name, "str", "0", "x")
		p.refusesWords(unknown, name, "str", "0", "x", "REPLACE")
	}
}

// TestKY1Arity: of each command one word fewer than it takes, one more, and many more; what is within is not refused so.
func TestKY1Arity(t *testing.T) {
	for _, r := range chapter() {
		for n := 1; n < 14; n++ {
			p := withKeys(t)
			args := []string{r.name}
			for len(args) < n {
				args = append(args, pick(new(mix(n*7+len(args))), "str", "1", "list"))
			}
			if n >= r.least && (r.most < 0 || n <= r.most) {
				if got := p.ask(args...); got == "-"+unknown {
					t.Errorf("%q: %s", args, got)
				}
				continue
			}
			p.refusesWords(unknown, args...)
		}
	}
	p := withKeys(t)
	for _, line := range []string{"COPY str new DB 1 DB 2", "COPY str new DB 1 REPLACE REPLACE", "SCAN 0 MATCH a COUNT 1 TYPE string MATCH", "SCAN 0 MATCH a COUNT 1 TYPE string MATCH b", "EXPIRE str 1 NX NX", "EXPIRE str 1 NX XX", "FLUSHALL ASYNC ASYNC", "OBJECT HELP", "OBJECT ENCODING str str", "SWAPDB 0 1 2", "DBSIZE 0", "RANDOMKEY 0"} {
		p.refuses(line, unknown)
	}
	many := append([]string{"DEL"}, slices.Repeat([]string{"list", "none", "set"}, 50000)...)
	p.wantWords(":2", many...)
}
