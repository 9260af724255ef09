package keys

import (
	"fmt"
	"maps"
	"math/big"
	"slices"
	"strings"

	"cistern/api"
	"cistern/dict"
	"cistern/glob"
	"cistern/value"
)

// rows are the commands of chapter 19 with the least and the most words that chapter 13 tells of them.
const rows = `del 2 -1, unlink 2 -1, exists 2 -1, touch 2 -1, type 2 2, expire 3 4, pexpire 3 4, expireat 3 4, pexpireat 3 4, ttl 2 2, pttl 2 2, expiretime 2 2, pexpiretime 2 2, persist 2 2, rename 3 3, renamenx 3 3, copy 3 6, move 3 3, keys 2 2, scan 2 8, randomkey 1 1, object 3 3, sort 2 -1, dbsize 1 1, flushdb 1 2, flushall 1 2, swapdb 3 3`

type row struct {
	name        string
	least, most int
}

func chapter() []row {
	var list []row
	for line := range strings.SplitSeq(rows, ",") {
		var r row
		if _, err := fmt.Sscan(line, &r.name, &r.least, &r.most); err != nil {
			panic(err)
		}
		list = append(list, r)
	}
	return list
}

// What clients are told, as the chapters say it.
const (
	unknown   = "ERR unknown command"
	syntax    = "ERR syntax error"
	wrongType = "WRONGTYPE Operation against a key holding the wrong kind of value"
	tooLarge  = "ERR value is too large"
	tooMany   = "ERR too many keys"
	noNumber  = "ERR value is not an integer or out of range"
	noKey     = "ERR no such key"
	noDB      = "ERR DB index is out of range"
	sameOne   = "ERR source and destination objects are the same"
	noCursor  = "ERR invalid cursor"
	noUses    = "ERR An LFU maxmemory policy is not selected"
	noDouble  = "ERR One or more scores can't be converted into double"
	noOption  = "ERR Unsupported option "
)

// badTime is what is told of a time that can't be.
func badTime(name string) string { return "ERR invalid expire time in '" + name + "' command" }

// maxKeys and so on are the limits as DOC.md has them.
const (
	maxKeys    = 1 << 17
	maxKey     = 1 << 16
	maxPattern = 1024
	maxNumber  = 1<<53 - 1
)

// entry is what the model knows of a key. Its value is a twin of the space's: no command of this layer works on a value in its place.
type entry struct {
	v              *value.Value
	due, mark, use int
}

// shelf is a database of the model: its entries by their keys, and a dict to which layer 8's calls were made as chapter 11 says, on which the order of scans hangs alone.
type shelf struct {
	held  map[string]*entry
	order *dict.Dict[int]
}

func newShelf() *shelf { return &shelf{map[string]*entry{}, dict.New[int](0)} }

// model is an abstract machine that knows maps alone.
type model struct {
	limits           api.Thresholds
	now, marks, uses int
	x                uint64
	shelves          []*shelf
}

const databases = 3

func newModel(limits api.Thresholds) *model {
	m := &model{limits: limits, x: 1}
	for range databases {
		m.shelves = append(m.shelves, newShelf())
	}
	return m
}

// refused is what the model gives a command up with.
type refused string

func (m *model) do(db int, args []string) (r api.Reply) {
	defer func() {
		switch x := recover().(type) {
		case nil:
		case refused:
			r = api.Reply{Kind: api.ReplyError, Text: string(x)}
		default:
			panic(x)
		}
	}()
	return m.run(db, args)
}

func must(ok bool, text string) {
	if !ok {
		panic(refused(text))
	}
}

// next is the number by chance that comes next.
func (m *model) next(n int) int {
	x := new(big.Int).SetUint64(m.x)
	x.Mul(x, new(big.Int).SetUint64(6364136223846793005))
	x.Add(x, new(big.Int).SetUint64(1442695040888963407))
	return int((x.Uint64() >> 33) % uint64(n))
}

func (m *model) random(n int) int {
	got := m.next(n)
	m.x = m.x*6364136223846793005 + 1442695040888963407
	return got
}

// shelf is a database; of one that is none an empty one.
func (m *model) shelf(db int) *shelf {
	if db < 0 || db >= len(m.shelves) {
		return newShelf()
	}
	return m.shelves[db]
}

func (m *model) peek(db int, key string) *entry { return m.shelf(db).held[key] }

func (m *model) get(db int, key string) *entry {
	e := m.peek(db, key)
	if e != nil {
		m.uses++
		e.use = m.uses
	}
	return e
}

func (m *model) change(e *entry) {
	m.marks++
	e.mark = m.marks
}

// come lets a key have a value and an expiry, changed and used.
func (m *model) come(db int, key string, v *value.Value, due int) {
	e := &entry{v: v, due: due}
	s := m.shelf(db)
	s.held[key] = e
	s.order.Set(key, 0)
	m.change(e)
	m.get(db, key)
}

func (m *model) put(db int, key string, v *value.Value) {
	must(len(key) <= maxKey, tooLarge)
	must(m.peek(db, key) != nil || m.all() < maxKeys, tooMany)
	m.come(db, key, v, -1)
}

func (m *model) all() int {
	n := 0
	for _, s := range m.shelves {
		n += len(s.held)
	}
	return n
}

func (m *model) drop(db int, key string) bool {
	s := m.shelf(db)
	if s.held[key] == nil {
		return false
	}
	delete(s.held, key)
	s.order.Delete(key)
	return true
}

func (m *model) expire(db int, key string, at int) {
	e := m.peek(db, key)
	switch {
	case e == nil:
	case at <= m.now:
		m.drop(db, key)
	default:
		e.due = at
		m.change(e)
	}
}

func (m *model) rising(db int) []string { return slices.Sorted(maps.Keys(m.shelf(db).held)) }

func (m *model) advance(n int) {
	m.now += n
	for db := range m.shelves {
		for _, key := range m.rising(db) {
			if due := m.peek(db, key).due; due >= 0 && due <= m.now {
				m.drop(db, key)
			}
		}
	}
}

// whole is the number whose text a word is.
func whole(word string) (*big.Int, bool) {
	n, ok := new(big.Int).SetString(word, 10)
	if !ok || n.String() != word || !n.IsInt64() {
		return nil, false
	}
	return n, true
}

// within is a number's text from least to most.
func within(word string, least, most int) (int, bool) {
	n, ok := whole(word)
	if !ok || n.Cmp(big.NewInt(int64(least))) < 0 || n.Cmp(big.NewInt(int64(most))) > 0 {
		return 0, false
	}
	return int(n.Int64()), true
}

// upper are the letters a to z as great ones.
func upper(s string) string {
	b := []byte(s)
	for i, c := range b {
		if 'a' <= c && c <= 'z' {
			b[i] = c - 32
		}
	}
	return string(b)
}

func number(n int) api.Reply         { return api.Reply{Kind: api.ReplyInt, N: n} }
func bulk(s string) api.Reply        { return api.Reply{Kind: api.ReplyBulk, Text: s} }
func status(s string) api.Reply      { return api.Reply{Kind: api.ReplyStatus, Text: s} }
func array(l ...api.Reply) api.Reply { return api.Reply{Kind: api.ReplyArray, List: l} }

func bulks(texts ...string) api.Reply {
	r := array()
	for _, s := range texts {
		r.List = append(r.List, bulk(s))
	}
	return r
}

func (m *model) run(db int, args []string) api.Reply {
	must(len(args) > 0, unknown)
	at := slices.IndexFunc(chapter(), func(r row) bool { return upper(r.name) == upper(args[0]) })
	must(at >= 0, unknown)
	r := chapter()[at]
	must(len(args) >= r.least && (r.most < 0 || len(args) <= r.most), unknown)
	w := args[1:]
	switch r.name {
	case "del", "unlink", "exists", "touch":
		return m.count(db, r.name, w)
	case "type":
		return status(m.typeOf(db, w[0]))
	case "expire", "pexpire", "expireat", "pexpireat":
		return m.setTime(db, r.name, w)
	case "ttl", "pttl", "expiretime", "pexpiretime":
		return m.tellTime(db, r.name, w[0])
	case "persist":
		e := m.peek(db, w[0])
		if e == nil || e.due < 0 {
			return number(0)
		}
		e.due = -1
		m.change(e)
		return number(1)
	case "rename", "renamenx":
		return m.rename(db, r.name, w[0], w[1])
	case "copy":
		return m.duplicate(db, w)
	case "move":
		return m.move(db, w[0], w[1])
	case "keys":
		must(len(w[0]) <= maxPattern, syntax)
		return bulks(slices.DeleteFunc(m.rising(db), func(key string) bool { return !glob.Match(w[0], key, false) })...)
	case "scan":
		return m.scan(db, w)
	case "randomkey":
		if len(m.rising(db)) == 0 {
			return api.Reply{}
		}
		return bulk(m.rising(db)[m.random(len(m.rising(db)))])
	case "object":
		return m.object(db, w[0], w[1])
	case "sort":
		return m.sort(db, w)
	case "dbsize":
		return number(len(m.rising(db)))
	case "flushdb", "flushall":
		must(len(w) == 0 || upper(w[0]) == "ASYNC" || upper(w[0]) == "SYNC", syntax)
		for i := range m.shelves {
			if i == db || r.name == "flushall" {
				m.shelves[i] = newShelf()
			}
		}
		return status("OK")
	}
	return m.swap(m.database(w[0]), m.database(w[1]))
}

func (m *model) database(word string) int {
	n, ok := within(word, 0, databases-1)
	must(ok, noDB)
	return n
}

func (m *model) count(db int, name string, words []string) api.Reply {
	n := 0
	for _, key := range words {
		var there bool
		switch name {
		case "exists":
			there = m.peek(db, key) != nil
		case "touch":
			there = m.get(db, key) != nil
		default:
			there = m.drop(db, key)
		}
		if there {
			n++
		}
	}
	return number(n)
}

func (m *model) typeOf(db int, key string) string {
	e := m.peek(db, key)
	if e == nil {
		return "none"
	}
	return map[int]string{1: "string", 2: "list", 3: "set", 4: "zset", 5: "hash"}[e.v.Kind()]
}

func (m *model) setTime(db int, name string, w []string) api.Reply {
	n, ok := whole(w[1])
	must(ok, noNumber)
	word := ""
	if len(w) > 2 {
		word = upper(w[2])
		must(slices.Contains([]string{"NX", "XX", "GT", "LT"}, word), noOption+w[2])
	}
	in := func() { must(n.CmpAbs(big.NewInt(maxNumber)) <= 0, badTime(name)) }
	in()
	if name == "expire" || name == "expireat" {
		n.Mul(n, big.NewInt(1000))
		in()
	}
	if name == "expire" || name == "pexpire" {
		n.Add(n, big.NewInt(int64(m.now)))
		in()
	}
	at := int(n.Int64())
	e := m.peek(db, w[0])
	if e == nil {
		return number(0)
	}
	has := e.due >= 0
	if word == "NX" && has || word == "XX" && !has || word == "GT" && (!has || at <= e.due) || word == "LT" && has && at >= e.due {
		return number(0)
	}
	m.expire(db, w[0], at)
	return number(1)
}

func (m *model) tellTime(db int, name, key string) api.Reply {
	e := m.peek(db, key)
	if e == nil {
		return number(-2)
	}
	if e.due < 0 {
		return number(-1)
	}
	n := e.due
	if strings.HasSuffix(name, "ttl") {
		n -= m.now
	}
	if name[0] == 'p' {
		return number(n)
	}
	if n%1000 >= 500 {
		n += 1000
	}
	return number(n / 1000)
}

func (m *model) rename(db int, name, key, to string) api.Reply {
	must(m.peek(db, key) != nil, noKey)
	if name == "renamenx" && m.peek(db, to) != nil {
		return number(0)
	}
	must(len(to) <= maxKey, tooLarge)
	if key != to {
		e := m.peek(db, key)
		m.drop(db, to)
		m.drop(db, key)
		m.come(db, to, e.v, e.due)
	}
	if name == "renamenx" {
		return number(1)
	}
	return status("OK")
}

func (m *model) duplicate(db int, w []string) api.Reply {
	into, replace := db, false
	for i := 2; i < len(w); i++ {
		switch upper(w[i]) {
		case "DB":
			i++
			must(i < len(w), syntax)
			into = m.database(w[i])
		case "REPLACE":
			replace = true
		default:
			must(false, syntax)
		}
	}
	must(w[0] != w[1] || into != db, sameOne)
	e := m.get(db, w[0])
	if e == nil || m.peek(into, w[1]) != nil && !replace {
		return number(0)
	}
	m.put(into, w[1], e.v)
	if e.due >= 0 {
		m.expire(into, w[1], e.due)
	}
	return number(1)
}

func (m *model) move(db int, key, word string) api.Reply {
	to := m.database(word)
	must(to != db, sameOne)
	e := m.peek(db, key)
	if e == nil || m.peek(to, key) != nil {
		return number(0)
	}
	m.drop(db, key)
	m.come(to, key, e.v, e.due)
	return number(1)
}

func (m *model) scan(db int, w []string) api.Reply {
	cursor, ok := within(w[0], 0, 1<<63-1)
	must(ok, noCursor)
	n, match, kind := 10, func(string) bool { return true }, ""
	for options := w[1:]; len(options) > 0; options = options[2:] {
		must(len(options) > 1 && slices.Contains([]string{"MATCH", "COUNT", "TYPE"}, upper(options[0])), syntax)
		word := options[1]
		switch upper(options[0]) {
		case "MATCH":
			must(len(word) <= maxPattern, syntax)
			match = func(key string) bool { return glob.Match(word, key, false) }
		case "COUNT":
			n, ok = within(word, 1, 1<<63-1)
			must(ok, syntax)
		case "TYPE":
			kind = "=" + upper(word)
		}
	}
	all, next := m.shelf(db).order.Scan(cursor, n)
	var met []string
	for _, key := range all {
		if match(key) && (kind == "" || kind == "="+upper(m.typeOf(db, key))) {
			met = append(met, key)
		}
	}
	return array(bulk(fmt.Sprint(next)), bulks(met...))
}

func (m *model) object(db int, word, key string) api.Reply {
	word = upper(word)
	must(slices.Contains([]string{"ENCODING", "IDLETIME", "FREQ", "REFCOUNT"}, word), syntax)
	must(word != "FREQ", noUses)
	e := m.peek(db, key)
	switch {
	case e == nil:
		return api.Reply{}
	case word == "ENCODING":
		return bulk(e.v.Encoding())
	case word == "IDLETIME":
		return number(m.uses - e.use)
	}
	return number(1)
}

func (m *model) sort(db int, w []string) api.Reply {
	alpha, desc, dest := false, false, []string(nil)
	limit := []string{"0", "-1"}
	behind := func(i, n int) []string {
		must(i+n < len(w), syntax)
		return w[i+1 : i+1+n]
	}
	for i := 1; i < len(w); i++ {
		switch upper(w[i]) {
		case "ALPHA":
			alpha = true
		case "ASC":
			desc = false
		case "DESC":
			desc = true
		case "LIMIT":
			limit = behind(i, 2)
			i += 2
		case "STORE":
			dest = behind(i, 1)
			i++
		default:
			must(false, syntax)
		}
	}
	skip, ok := within(limit[0], -1<<63, 1<<63-1)
	must(ok, noNumber)
	most, ok := within(limit[1], -1<<63, 1<<63-1)
	must(ok, noNumber)
	var list []string
	if e := m.get(db, w[0]); e != nil {
		list = elements(e.v)
	}
	sortTexts(list, alpha)
	if desc {
		slices.Reverse(list)
	}
	var told []string
	for i, text := range list {
		if i >= skip && (most < 0 || len(told) < most) {
			told = append(told, text)
		}
	}
	if dest == nil {
		return bulks(told...)
	}
	if len(told) == 0 {
		m.drop(db, dest[0])
	} else {
		v := made(api.KindList, m.limits)
		for _, text := range told {
			v.Push(false, text)
		}
		m.put(db, dest[0], v)
	}
	return number(len(told))
}

// elements are what can be sorted of a value.
func elements(v *value.Value) []string {
	var list []string
	must(v.Kind() != api.KindString && v.Kind() != api.KindHash, wrongType)
	for i := range v.Len() {
		switch v.Kind() {
		case api.KindList:
			text, _ := v.At(i)
			list = append(list, text)
		case api.KindSet:
			list, _ = v.Members()
			return list
		case api.KindZset:
			one, _ := v.ByRank(i, 1, false)
			list = append(list, one[0].Member)
		}
	}
	return list
}

func sortTexts(list []string, alpha bool) {
	numbers := map[string]*big.Int{}
	for _, text := range list {
		n, ok := whole(text)
		must(ok || alpha, noDouble)
		numbers[text] = n
	}
	slices.SortFunc(list, func(a, b string) int {
		if !alpha && numbers[a].Cmp(numbers[b]) != 0 {
			return numbers[a].Cmp(numbers[b])
		}
		return strings.Compare(a, b)
	})
}

func (m *model) swap(a, b int) api.Reply {
	if a != b {
		m.shelves[a], m.shelves[b] = m.shelves[b], m.shelves[a]
		for _, db := range []int{a, b} {
			for _, key := range m.rising(db) {
				m.change(m.peek(db, key))
			}
		}
	}
	return status("OK")
}
