package hashes

import (
	"fmt"
	"maps"
	"math/big"
	"slices"
	"strings"

	"cistern/api"
	"cistern/glob"
	"cistern/value"
)

// rows are the commands of chapter 17 with the least and the most words that chapter 13 tells of them.
const rows = `hset 4 -1, hmset 4 -1, hsetnx 4 4, hget 3 3, hmget 3 -1, hdel 3 -1, hlen 2 2, hexists 3 3, hstrlen 3 3, hkeys 2 2, hvals 2 2, hgetall 2 2, hincrby 4 4, hrandfield 2 4, hscan 3 8`

type row struct {
	name        string
	least, most int
}

func chapter() []row {
	var list []row
	for line := range strings.SplitSeq(rows, ",") {
		var r row
		if _, err := fmt.Sscan(line, &r.name, &r.least, &r.most); err != nil {
			panic(err)
		}
		list = append(list, r)
	}
	return list
}

// What clients are told, as the chapters say it.
const (
	unknown   = "ERR unknown command"
	syntax    = "ERR syntax error"
	wrongType = "WRONGTYPE Operation against a key holding the wrong kind of value"
	tooLarge  = "ERR value is too large"
	tooMany   = "ERR too many keys"
	noNumber  = "ERR value is not an integer or out of range"
	noPairs   = "ERR wrong number of arguments for 'hset' command"
	noPairsM  = "ERR wrong number of arguments for 'hmset' command"
	noInteger = "ERR hash value is not an integer"
	overflow  = "ERR increment or decrement would overflow"
	noSample  = "ERR value is out of range"
	noCursor  = "ERR invalid cursor"
)

// entry is what the model knows of a key: a hash's fields, or what a value of another kind shows.
type entry struct {
	kind      int
	fields    map[string]string
	kept      *value.Value // a hash beside its fields, to which layer 10's calls were made one by one: only how it is kept, and what a scan tells, hangs on it
	shows     string
	due       int
	mark, use int
}

func (e *entry) rising() []string {
	if e == nil {
		return nil
	}
	return slices.Sorted(maps.Keys(e.fields))
}

// inTurns are names, each with its value behind it.
func (e *entry) inTurns(names []string) []string {
	var list []string
	for _, name := range names {
		list = append(list, name, e.fields[name])
	}
	return list
}

func (e *entry) field(name string) (string, bool) {
	if e == nil {
		return "", false
	}
	text, ok := e.fields[name]
	return text, ok
}

func (e *entry) put(name, text string) {
	e.fields[name] = text
	if _, err := e.kept.Put(api.Field{Name: name, Value: text}); err != api.OK {
		panic(err)
	}
}

func (e *entry) erase(name string) {
	delete(e.fields, name)
	if _, err := e.kept.Erase(name); err != api.OK {
		panic(err)
	}
}

// model is an abstract machine that knows maps alone.
type model struct {
	limits           api.Thresholds
	now, marks, uses int
	x                uint64
	spaces           []map[string]*entry
}

func newModel(limits api.Thresholds) *model {
	return &model{limits: limits, x: 1, spaces: []map[string]*entry{{}, {}}}
}

func (m *model) newHash(words ...string) *entry {
	v, err := value.New(api.KindHash, m.limits)
	if err != api.OK {
		panic(err)
	}
	e := &entry{kind: api.KindHash, fields: map[string]string{}, kept: v}
	for i := 0; i < len(words); i += 2 {
		e.put(words[i], words[i+1])
	}
	return e
}

// refused is what the model gives a command up with.
type refused string

func (m *model) do(db int, args []string) (r api.Reply) {
	defer func() {
		switch x := recover().(type) {
		case nil:
		case refused:
			r = api.Reply{Kind: api.ReplyError, Text: string(x)}
		default:
			panic(x)
		}
	}()
	return m.run(db, args)
}

func must(ok bool, text string) {
	if !ok {
		panic(refused(text))
	}
}

// next is the number by chance that comes next.
func (m *model) next(n int) int {
	x := new(big.Int).SetUint64(m.x)
	x.Mul(x, new(big.Int).SetUint64(6364136223846793005))
	x.Add(x, new(big.Int).SetUint64(1442695040888963407))
	return int((x.Uint64() >> 33) % uint64(n))
}

func (m *model) random(n int) int {
	got := m.next(n)
	m.x = m.x*6364136223846793005 + 1442695040888963407
	return got
}

func (m *model) there(db int, key string) *entry {
	if db < 0 || db >= len(m.spaces) {
		return nil
	}
	return m.spaces[db][key]
}

// get is a key that must be a hash; nil, if it is not there.
func (m *model) get(db int, key string) *entry {
	e := m.there(db, key)
	if e != nil {
		m.uses++
		e.use = m.uses
	}
	must(e == nil || e.kind == api.KindHash, wrongType)
	return e
}

func (m *model) change(e *entry) {
	m.marks++
	e.mark = m.marks
}

func (m *model) put(db int, key string, e *entry) {
	must(0 <= db && db < len(m.spaces), syntax)
	must(len(key) <= 1<<16, tooLarge)
	keys := 0
	for _, space := range m.spaces {
		keys += len(space)
	}
	must(m.there(db, key) != nil || keys < 1<<17, tooMany)
	e.due = -1
	m.spaces[db][key] = e
	m.change(e)
	m.uses++
	e.use = m.uses
}

// join puts the fields that words are in a hash, which may not be there; how many names are new.
func (m *model) join(db int, key string, words ...string) int {
	e := m.there(db, key)
	fresh := map[string]bool{}
	for i, word := range words {
		must(len(word) <= 1<<19, tooLarge)
		if _, there := e.field(word); i%2 == 0 && !there {
			fresh[word] = true
		}
	}
	must(len(e.rising())+len(fresh) <= 1<<20, tooLarge)
	if e == nil {
		m.put(db, key, m.newHash(words...))
		return len(fresh)
	}
	for i := 0; i < len(words); i += 2 {
		e.put(words[i], words[i+1])
	}
	m.change(e)
	return len(fresh)
}

// leave takes names out of a hash that is there, or not; how many were there.
func (m *model) leave(db int, key string, names ...string) int {
	e := m.there(db, key)
	if e == nil {
		return 0
	}
	before := len(e.fields)
	for _, name := range names {
		e.erase(name)
	}
	if len(e.fields) == 0 {
		delete(m.spaces[db], key)
	} else if len(e.fields) < before {
		m.change(e)
	}
	return before - len(e.fields)
}

func (m *model) expire(db int, key string, at int) {
	e := m.there(db, key)
	switch {
	case e == nil:
	case at <= m.now:
		delete(m.spaces[db], key)
	default:
		e.due = at
		m.change(e)
	}
}

func (m *model) advance(n int) {
	m.now += n
	for _, keys := range m.spaces {
		for key, e := range keys {
			if e.due >= 0 && e.due <= m.now {
				delete(keys, key)
			}
		}
	}
}

// upper writes a to z as A to Z, and no other letters of the world.
func upper(s string) string {
	return strings.Map(func(r rune) rune {
		if r >= 'a' && r <= 'z' {
			return r - 'a' + 'A'
		}
		return r
	}, s)
}

func whole(word string) (*big.Int, bool) {
	if len(word) > 20 {
		return nil, false
	}
	n, ok := new(big.Int).SetString(word, 10)
	if !ok || n.String() != word || !n.IsInt64() {
		return nil, false
	}
	return n, true
}

// within is a word's number, if it has one from low to high.
func within(word string, low, high int64) (int, bool) {
	n, ok := whole(word)
	if !ok || n.Int64() < low || n.Int64() > high {
		return 0, false
	}
	return int(n.Int64()), true
}

func count(n int) api.Reply          { return api.Reply{Kind: api.ReplyInt, N: n} }
func bulk(s string) api.Reply        { return api.Reply{Kind: api.ReplyBulk, Text: s} }
func array(l ...api.Reply) api.Reply { return api.Reply{Kind: api.ReplyArray, List: l} }

func bulks(kind int, texts []string) api.Reply {
	r := api.Reply{Kind: kind}
	for _, s := range texts {
		r.List = append(r.List, bulk(s))
	}
	return r
}

func maybe(text string, there bool) api.Reply {
	if !there {
		return api.Reply{Kind: api.ReplyNull}
	}
	return bulk(text)
}

func (m *model) run(db int, args []string) api.Reply {
	must(len(args) > 0, unknown)
	at := slices.IndexFunc(chapter(), func(r row) bool { return upper(r.name) == upper(args[0]) })
	must(at >= 0, unknown)
	r := chapter()[at]
	must(len(args) >= r.least && (r.most < 0 || len(args) <= r.most), unknown)
	w := args[1:]
	switch r.name {
	case "hset", "hmset":
		return m.set(db, r.name, w)
	case "hincrby":
		return m.add(db, w[0], w[1], w[2])
	case "hrandfield":
		return m.sample(db, w)
	case "hscan":
		return m.scan(db, w)
	}
	e := m.get(db, w[0])
	switch r.name {
	case "hsetnx":
		if _, there := e.field(w[1]); there {
			return count(0)
		}
		return count(m.join(db, w[0], w[1:]...))
	case "hget":
		return maybe(e.field(w[1]))
	case "hmget":
		r := array()
		for _, name := range w[1:] {
			r.List = append(r.List, maybe(e.field(name)))
		}
		return r
	case "hdel":
		return count(m.leave(db, w[0], w[1:]...))
	case "hlen":
		return count(len(e.rising()))
	case "hexists":
		if _, there := e.field(w[1]); there {
			return count(1)
		}
		return count(0)
	case "hstrlen":
		text, _ := e.field(w[1])
		return count(len(text))
	case "hkeys":
		return bulks(api.ReplyArray, e.rising())
	case "hvals":
		r := array()
		for _, name := range e.rising() {
			r.List = append(r.List, bulk(e.fields[name]))
		}
		return r
	}
	return bulks(api.ReplyMap, e.inTurns(e.rising())) // hgetall
}

func (m *model) set(db int, name string, w []string) api.Reply {
	must(len(w)%2 == 1, "ERR wrong number of arguments for '"+name+"' command")
	m.get(db, w[0])
	fresh := m.join(db, w[0], w[1:]...)
	if name == "hmset" {
		return api.Reply{Kind: api.ReplyStatus, Text: "OK"}
	}
	return count(fresh)
}

func (m *model) add(db int, key, name, word string) api.Reply {
	n, ok := whole(word)
	must(ok, noNumber)
	sum := new(big.Int).Set(n)
	if text, there := m.get(db, key).field(name); there {
		was, ok := whole(text)
		must(ok, noInteger)
		sum.Add(sum, was)
	}
	must(sum.IsInt64(), overflow)
	m.join(db, key, name, sum.String())
	return count(int(sum.Int64()))
}

// draw takes one of a list by chance: it, and the others.
func (m *model) draw(list []string) (string, []string) {
	i := m.random(len(list))
	return list[i], slices.Delete(slices.Clone(list), i, i+1)
}

func (m *model) sample(db int, w []string) api.Reply {
	if len(w) == 1 {
		e := m.get(db, w[0])
		if e == nil {
			return api.Reply{Kind: api.ReplyNull}
		}
		one, _ := m.draw(e.rising())
		return bulk(one)
	}
	n, ok := within(w[1], -1<<20, 1<<20)
	must(ok, noSample)
	must(len(w) < 3 || upper(w[2]) == "WITHVALUES", syntax)
	e := m.get(db, w[0])
	all := e.rising()
	var picked []string
	switch {
	case n < 0 && len(all) > 0:
		for range -n {
			picked = append(picked, all[m.random(len(all))])
		}
	case n >= len(all):
		picked = all
	case n >= 0:
		left := all
		for range n {
			var one string
			one, left = m.draw(left)
			picked = append(picked, one)
		}
	}
	if len(w) == 3 {
		picked = e.inTurns(picked)
	}
	return bulks(api.ReplyArray, picked)
}

func (m *model) scan(db int, w []string) api.Reply {
	cursor, ok := within(w[1], 0, 1<<63-1)
	must(ok, noCursor)
	n, pattern, matched, bare := 10, "", false, false
	for options := w[2:]; len(options) > 0; {
		word := upper(options[0])
		options = options[1:]
		if word == "NOVALUES" {
			must(!bare, syntax)
			bare = true
			continue
		}
		must(len(options) > 0, syntax)
		switch word {
		case "MATCH":
			must(len(options[0]) <= 1024, syntax)
			pattern, matched = options[0], true
		case "COUNT":
			n, ok = within(options[0], 1, 1<<63-1)
			must(ok, syntax)
		default:
			must(false, syntax)
		}
		options = options[1:]
	}
	e := m.get(db, w[0])
	var all, met []string
	next := 0
	if e != nil {
		all, next, _ = e.kept.Scan(cursor, n)
	}
	for _, name := range all {
		if !matched || glob.Match(pattern, name, false) {
			met = append(met, name)
		}
	}
	if !bare {
		met = e.inTurns(met)
	}
	return array(bulk(fmt.Sprint(next)), bulks(api.ReplyArray, met))
}
