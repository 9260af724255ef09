package texts

import (
	"fmt"
	"math/big"
	"slices"
	"strings"

	"cistern/api"
)

// rows are the commands of chapter 14 with the least and the most words that chapter 13 tells of them.
const rows = `set 3 -1, get 2 2, getset 3 3, getdel 2 2, getex 2 -1, setnx 3 3, setex 4 4, psetex 4 4, mget 2 -1, mset 3 -1, msetnx 3 -1, strlen 2 2, append 3 3,
incr 2 2, decr 2 2, incrby 3 3, decrby 3 3, getrange 4 4, setrange 4 4, getbit 3 3, setbit 4 4, bitcount 2 5, bitpos 3 6, bitop 4 -1`

type row struct {
	name        string
	least, most int
}

func chapter() []row {
	var list []row
	for line := range strings.SplitSeq(rows, ",") {
		var r row
		if _, err := fmt.Sscan(line, &r.name, &r.least, &r.most); err != nil {
			panic(err)
		}
		list = append(list, r)
	}
	return list
}

// What clients are told, as the chapters say it.
const (
	unknown   = "ERR unknown command"
	syntax    = "ERR syntax error"
	noNumber  = "ERR value is not an integer or out of range"
	wrongType = "WRONGTYPE Operation against a key holding the wrong kind of value"
	tooLarge  = "ERR value is too large"
	tooMany   = "ERR too many keys"
	tooLong   = "ERR string exceeds maximum allowed size (512KB)"
	noOffset  = "ERR offset is out of range"
	noPlace   = "ERR bit offset is not an integer or out of range"
	noBit     = "ERR bit is not an integer or out of range"
	noSought  = "ERR The bit argument must be 1 or 0."
	noNegate  = "ERR decrement would overflow"
	noSum     = "ERR increment or decrement would overflow"
	oneKey    = "ERR BITOP NOT must be called with a single source key."
)

func badTime(name string) string  { return "ERR invalid expire time in '" + name + "' command" }
func badPairs(name string) string { return "ERR wrong number of arguments for '" + name + "' command" }

// entry is what the model knows of a key: of another kind than a string its text is what the value shows.
type entry struct {
	kind           int
	text, encoding string
	due            int
	mark, use      int
}

// model is an abstract machine that knows maps alone.
type model struct {
	now, marks, uses int
	spaces           []map[string]*entry
}

// refused is what the model gives a command up with.
type refused string

func (m *model) do(db int, args []string) (r api.Reply) {
	defer func() {
		switch x := recover().(type) {
		case nil:
		case refused:
			r = api.Reply{Kind: api.ReplyError, Text: string(x)}
		default:
			panic(x)
		}
	}()
	return m.run(db, args)
}

func must(ok bool, text string) {
	if !ok {
		panic(refused(text))
	}
}

func (m *model) there(db int, key string) *entry {
	if db < 0 || db >= len(m.spaces) {
		return nil
	}
	return m.spaces[db][key]
}

func (m *model) get(db int, key string) *entry {
	e := m.there(db, key)
	if e != nil {
		m.uses++
		e.use = m.uses
	}
	return e
}

// getText is a key that must be a string; nil, if it is not there.
func (m *model) getText(db int, key string) *entry {
	e := m.get(db, key)
	must(e == nil || e.kind == api.KindString, wrongType)
	return e
}

func (m *model) change(e *entry) {
	m.marks++
	e.mark = m.marks
}

func (m *model) count() int {
	n := 0
	for _, keys := range m.spaces {
		n += len(keys)
	}
	return n
}

func (m *model) put(db int, key, text string) {
	must(len(text) <= 1<<19, tooLarge)
	must(0 <= db && db < len(m.spaces), syntax)
	must(len(key) <= 1<<16, tooLarge)
	must(m.there(db, key) != nil || m.count() < 1<<17, tooMany)
	e := &entry{kind: api.KindString, text: text, due: -1}
	m.spaces[db][key] = e
	m.change(e)
	m.uses++
	e.use = m.uses
}

// work gives a key another text: in its place, or anew.
func (m *model) work(db int, key, text string) {
	e := m.there(db, key)
	if e == nil {
		m.put(db, key, text)
		return
	}
	e.text = text
	m.change(e)
}

func (m *model) drop(db int, key string) {
	if m.there(db, key) != nil {
		delete(m.spaces[db], key)
	}
}

func (m *model) expire(db int, key string, at int) {
	e := m.there(db, key)
	switch {
	case e == nil:
	case at <= m.now:
		m.drop(db, key)
	default:
		e.due = at
		m.change(e)
	}
}

func (m *model) advance(n int) {
	m.now += n
	for _, keys := range m.spaces {
		for key, e := range keys {
			if e.due >= 0 && e.due <= m.now {
				delete(keys, key)
			}
		}
	}
}

// upper writes a to z as A to Z, and no other letters of the world.
func upper(s string) string {
	return strings.Map(func(r rune) rune {
		if r >= 'a' && r <= 'z' {
			return r - 'a' + 'A'
		}
		return r
	}, s)
}

func whole(word string) (int, bool) {
	if len(word) > 20 {
		return 0, false
	}
	n, ok := new(big.Int).SetString(word, 10)
	if !ok || n.String() != word || !n.IsInt64() {
		return 0, false
	}
	return int(n.Int64()), true
}

func mustNumber(word string) int {
	n, ok := whole(word)
	must(ok, noNumber)
	return n
}

func status() api.Reply             { return api.Reply{Kind: api.ReplyStatus, Text: "OK"} }
func count(n int) api.Reply         { return api.Reply{Kind: api.ReplyInt, N: n} }
func bulk(s string) api.Reply       { return api.Reply{Kind: api.ReplyBulk, Text: s} }
func list(l ...api.Reply) api.Reply { return api.Reply{Kind: api.ReplyArray, List: l} }

func textOf(e *entry) string {
	if e == nil {
		return ""
	}
	return e.text
}

func tell(e *entry) api.Reply {
	if e == nil || e.kind != api.KindString {
		return api.Reply{}
	}
	return bulk(e.text)
}

func (m *model) run(db int, args []string) api.Reply {
	must(len(args) > 0, unknown)
	name := strings.ToLower(upper(args[0]))
	at := slices.IndexFunc(chapter(), func(r row) bool { return r.name == name })
	must(at >= 0, unknown)
	r := chapter()[at]
	must(len(args) >= r.least && (r.most < 0 || len(args) <= r.most), unknown)
	w := args[1:]
	switch name {
	case "set", "getex":
		return m.withOptions(db, name, w)
	case "get", "strlen", "getset", "getdel", "append":
		return m.plain(db, name, w)
	case "setnx":
		if m.get(db, w[0]) != nil {
			return count(0)
		}
		m.put(db, w[0], w[1])
		return count(1)
	case "setex", "psetex":
		until := m.until(name, map[string]string{"setex": "EX", "psetex": "PX"}[name], w[1])
		m.put(db, w[0], w[2])
		m.expire(db, w[0], until)
		return status()
	case "mget", "mset", "msetnx":
		return m.many(db, name, w)
	case "incr", "decr", "incrby", "decrby":
		return m.add(db, name, w)
	case "getrange", "setrange":
		return m.ranges(db, name, w)
	case "getbit", "setbit":
		return m.bit(db, name, w)
	case "bitcount":
		return m.bitCount(db, w)
	case "bitpos":
		return m.bitPos(db, w)
	}
	return m.bitOp(db, w)
}

// until is the time that an expiry option means.
func (m *model) until(name, option, word string) int {
	n := big.NewInt(int64(mustNumber(word)))
	must(n.Sign() > 0, badTime(name))
	if option == "EX" || option == "EXAT" {
		n.Mul(n, big.NewInt(1000))
	}
	if option == "EX" || option == "PX" {
		n.Add(n, big.NewInt(int64(m.now)))
	}
	must(n.Cmp(big.NewInt(1<<53-1)) <= 0, badTime(name))
	return int(n.Int64())
}

func (m *model) withOptions(db int, name string, w []string) api.Reply {
	behind, known := w[1:], " PERSIST EX PX EXAT PXAT "
	if name == "set" {
		behind, known = w[2:], " NX XX GET KEEPTTL EX PX EXAT PXAT "
	}
	times := map[string]int{}
	timed, word := "", ""
	for i := 0; i < len(behind); i++ {
		o := upper(behind[i])
		must(!strings.Contains(o, " ") && strings.Contains(known, " "+o+" "), syntax)
		times[o]++
		if strings.Contains(" EX PX EXAT PXAT ", " "+o+" ") {
			i++
			must(i < len(behind), syntax)
			timed, word = o, behind[i]
		}
	}
	for _, together := range []string{"NX XX", "GET", "EX PX EXAT PXAT KEEPTTL PERSIST"} {
		n := 0
		for _, o := range strings.Fields(together) {
			n += times[o]
		}
		must(n <= 1, syntax)
	}
	until := -1
	if timed != "" {
		until = m.until(name, timed, word)
	}
	if name == "getex" {
		return m.getEx(db, w[0], until, times["PERSIST"] > 0)
	}
	old := m.get(db, w[0])
	set := !(times["NX"] > 0 && old != nil || times["XX"] > 0 && old == nil)
	var reply api.Reply
	if times["GET"] > 0 {
		must(old == nil || old.kind == api.KindString, wrongType)
		reply = tell(old)
	} else if set {
		reply = status()
	}
	if set {
		m.put(db, w[0], w[1])
	}
	if set && until >= 0 {
		m.expire(db, w[0], until)
	}
	if set && times["KEEPTTL"] > 0 && old != nil && old.due >= 0 {
		m.expire(db, w[0], old.due)
	}
	return reply
}

func (m *model) getEx(db int, key string, until int, persist bool) api.Reply {
	e := m.getText(db, key)
	if e != nil && until >= 0 {
		m.expire(db, key, until)
	}
	if e != nil && persist && e.due >= 0 {
		e.due = -1
		m.change(e)
	}
	return tell(e)
}

func (m *model) plain(db int, name string, w []string) api.Reply {
	e := m.getText(db, w[0])
	reply := tell(e)
	switch name {
	case "strlen":
		return count(len(textOf(e)))
	case "getset":
		m.put(db, w[0], w[1])
	case "getdel":
		m.drop(db, w[0])
	case "append":
		must(e == nil || len(e.text)+len(w[1]) <= 1<<19, tooLong)
		all := textOf(e) + w[1]
		m.work(db, w[0], all)
		return count(len(all))
	}
	return reply
}

func (m *model) many(db int, name string, w []string) api.Reply {
	if name == "mget" {
		var all []api.Reply
		for _, key := range w {
			all = append(all, tell(m.get(db, key)))
		}
		return list(all...)
	}
	must(len(w)%2 == 0, badPairs(name))
	if name == "msetnx" {
		for i := 0; i < len(w); i += 2 {
			if m.get(db, w[i]) != nil {
				return count(0)
			}
		}
	}
	var fresh []string
	for i := 0; i < len(w); i += 2 {
		must(len(w[i]) <= 1<<16 && len(w[i+1]) <= 1<<19, tooLarge)
		if m.there(db, w[i]) == nil {
			fresh = append(fresh, w[i])
		}
	}
	slices.Sort(fresh)
	must(m.count()+len(slices.Compact(fresh)) <= 1<<17, tooMany)
	for i := 0; i < len(w); i += 2 {
		m.put(db, w[i], w[i+1])
	}
	if name == "msetnx" {
		return count(1)
	}
	return status()
}

func (m *model) add(db int, name string, w []string) api.Reply {
	by := big.NewInt(1)
	if len(w) > 1 {
		by = big.NewInt(int64(mustNumber(w[1])))
	}
	if strings.HasPrefix(name, "decr") {
		by.Neg(by)
		must(by.IsInt64(), noNegate)
	}
	e := m.getText(db, w[0])
	sum := new(big.Int)
	if e != nil {
		sum.SetInt64(int64(mustNumber(e.text)))
	}
	sum.Add(sum, by)
	must(sum.IsInt64(), noSum)
	m.work(db, w[0], sum.String())
	return count(int(sum.Int64()))
}

// between gives the places from a to b of so many, as the chapter's words go on: the first and the last one, if there are some.
func between(a, b, of int) (int, int, bool) {
	if a < 0 && b < 0 && a > b {
		return 0, 0, false
	}
	if a < 0 {
		a = of + a
	}
	if b < 0 {
		b = of + b
	}
	if a < 0 {
		a = 0
	}
	if b < 0 {
		b = 0
	}
	if b > of-1 {
		b = of - 1
	}
	return a, b, of > 0 && a <= b
}

func (m *model) ranges(db int, name string, w []string) api.Reply {
	a := mustNumber(w[1])
	if name == "getrange" {
		b := mustNumber(w[2])
		s := textOf(m.getText(db, w[0]))
		if from, to, some := between(a, b, len(s)); some {
			return bulk(s[from : to+1])
		}
		return bulk("")
	}
	must(a >= 0, noOffset)
	s, part := textOf(m.getText(db, w[0])), w[2]
	if part == "" {
		return count(len(s))
	}
	must(a <= 1<<19 && a+len(part) <= 1<<19, tooLong)
	if len(s) < a {
		s += strings.Repeat("\x00", a-len(s))
	}
	whole := s[:a] + part
	if len(s) > len(whole) {
		whole += s[len(whole):]
	}
	m.work(db, w[0], whole)
	return count(len(whole))
}

// eights are the bits of each byte, told as digits.
var eights = func() (list [256]string) {
	for i := range list {
		list[i] = fmt.Sprintf("%08b", i)
	}
	return list
}()

// digits are the bits of a text, each told as a digit.
func digits(s string) string {
	var b strings.Builder
	b.Grow(8 * len(s))
	for i := range len(s) {
		b.WriteString(eights[s[i]])
	}
	return b.String()
}

// undigits is the text whose bits these are.
func undigits(d string) string {
	b := make([]byte, len(d)/8)
	for i := range d {
		b[i/8] = b[i/8]*2 + d[i] - '0'
	}
	return string(b)
}

func (m *model) bit(db int, name string, w []string) api.Reply {
	at, ok := whole(w[1])
	must(ok && at >= 0 && at < 1<<22, noPlace)
	must(name == "getbit" || w[2] == "0" || w[2] == "1", noBit)
	d := digits(textOf(m.getText(db, w[0])))
	was := 0
	if at < len(d) && d[at] == '1' {
		was = 1
	}
	if name == "setbit" {
		for len(d) <= at {
			d += strings.Repeat("0", (at/8+1)*8-len(d))
		}
		m.work(db, w[0], undigits(d[:at]+w[2]+d[at+1:]))
	}
	return count(was)
}

// stretched reads the places of BITCOUNT and BITPOS, and gives what tells where the bits of a text stand that are meant.
func stretched(w []string) func(s string) (int, int) {
	unit := "BYTE"
	if len(w) > 2 {
		unit = upper(w[2])
	}
	must(unit == "BYTE" || unit == "BIT", syntax)
	a, b := 0, -1
	if len(w) > 0 {
		a = mustNumber(w[0])
	}
	if len(w) > 1 {
		b = mustNumber(w[1])
	}
	return func(s string) (int, int) {
		each, of := 8, len(s)
		if unit == "BIT" {
			each, of = 1, len(s)*8
		}
		from, to, some := between(a, b, of)
		if !some {
			return 0, 0
		}
		return from * each, (to + 1) * each
	}
}

func (m *model) bitCount(db int, w []string) api.Reply {
	must(len(w) != 2, syntax)
	where := stretched(w[1:])
	s := textOf(m.getText(db, w[0]))
	from, end := where(s)
	return count(strings.Count(digits(s)[from:end], "1"))
}

func (m *model) bitPos(db int, w []string) api.Reply {
	must(w[1] == "0" || w[1] == "1", noSought)
	where := stretched(w[2:])
	e := m.getText(db, w[0])
	if e == nil && w[1] == "1" {
		return count(-1)
	}
	if e == nil {
		return count(0)
	}
	from, end := where(e.text)
	at := strings.Index(digits(e.text)[from:end], w[1])
	switch {
	case at >= 0:
		return count(from + at)
	case w[1] == "0" && len(w) < 4 && from < end:
		return count(8 * len(e.text))
	}
	return count(-1)
}

func (m *model) bitOp(db int, w []string) api.Reply {
	op, dest, keys := upper(w[0]), w[1], w[2:]
	must(op == "AND" || op == "OR" || op == "XOR" || op == "NOT", syntax)
	must(op != "NOT" || len(keys) == 1, oneKey)
	var all []string
	longest := 0
	for _, key := range keys {
		all = append(all, digits(textOf(m.getText(db, key))))
		longest = max(longest, len(all[len(all)-1]))
	}
	d := make([]byte, longest)
	for i := range d {
		ones := 0
		for _, s := range all {
			if i < len(s) && s[i] == '1' {
				ones++
			}
		}
		is := op == "AND" && ones == len(all) || op == "OR" && ones > 0 || op == "XOR" && ones%2 == 1 || op == "NOT" && ones == 0
		d[i] = '0'
		if is {
			d[i] = '1'
		}
	}
	if longest == 0 {
		m.drop(db, dest)
		return count(0)
	}
	m.put(db, dest, undigits(string(d)))
	return count(longest / 8)
}
