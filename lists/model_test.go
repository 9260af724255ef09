package lists

import (
	"fmt"
	"math/big"
	"slices"
	"strings"

	"cistern/api"
)

// rows are the commands of chapter 15 with the least and the most words that chapter 13 tells of them.
const rows = `lpush 3 -1, rpush 3 -1, lpushx 3 -1, rpushx 3 -1, lpop 2 3, rpop 2 3, llen 2 2, lindex 3 3, lset 4 4, linsert 5 5, lrange 4 4, lrem 4 4, ltrim 4 4, lpos 3 -1, lmove 5 5, rpoplpush 3 3, lmpop 4 -1`

type row struct {
	name        string
	least, most int
}

func chapter() []row {
	var list []row
	for line := range strings.SplitSeq(rows, ",") {
		var r row
		if _, err := fmt.Sscan(line, &r.name, &r.least, &r.most); err != nil {
			panic(err)
		}
		list = append(list, r)
	}
	return list
}

// What clients are told, as the chapters say it.
const (
	unknown     = "ERR unknown command"
	syntax      = "ERR syntax error"
	noNumber    = "ERR value is not an integer or out of range"
	wrongType   = "WRONGTYPE Operation against a key holding the wrong kind of value"
	tooLarge    = "ERR value is too large"
	tooMany     = "ERR too many keys"
	noKey       = "ERR no such key"
	noIndex     = "ERR index out of range"
	notPositive = "ERR value is out of range, must be positive"
	noRank      = "ERR RANK can't be zero: use 1 to start from the first match, 2 from the second ... or use negative to start from the end of the list"
	noCount     = "ERR COUNT can't be negative"
	noMaxlen    = "ERR MAXLEN can't be negative"
	noKeys      = "ERR numkeys should be greater than 0"
	noPops      = "ERR count should be greater than 0"
)

// entry is what the model knows of a key: a list's entries, or what a value of another kind shows.
type entry struct {
	kind      int
	entries   []string
	shows     string
	due       int
	mark, use int
}

// model is an abstract machine that knows maps and plain lists alone.
type model struct {
	now, marks, uses int
	spaces           []map[string]*entry
}

// refused is what the model gives a command up with.
type refused string

func (m *model) do(db int, args []string) (r api.Reply) {
	defer func() {
		switch x := recover().(type) {
		case nil:
		case refused:
			r = api.Reply{Kind: api.ReplyError, Text: string(x)}
		default:
			panic(x)
		}
	}()
	return m.run(db, args)
}

func must(ok bool, text string) {
	if !ok {
		panic(refused(text))
	}
}

func (m *model) there(db int, key string) *entry {
	if db < 0 || db >= len(m.spaces) {
		return nil
	}
	return m.spaces[db][key]
}

func (m *model) use(e *entry) {
	m.uses++
	e.use = m.uses
}

// get is a key that must be a list; nil, if it is not there.
func (m *model) get(db int, key string) *entry {
	e := m.there(db, key)
	if e != nil {
		m.use(e)
	}
	must(e == nil || e.kind == api.KindList, wrongType)
	return e
}

func (m *model) change(e *entry) {
	m.marks++
	e.mark = m.marks
}

func (m *model) put(db int, key string, e *entry) {
	must(0 <= db && db < len(m.spaces), syntax)
	must(len(key) <= 1<<16, tooLarge)
	keys := 0
	for _, space := range m.spaces {
		keys += len(space)
	}
	must(m.there(db, key) != nil || keys < 1<<17, tooMany)
	e.due = -1
	m.spaces[db][key] = e
	m.change(e)
	m.use(e)
}

// work gives a key other entries: in its place, or anew; without any it goes.
func (m *model) work(db int, key string, entries []string) {
	must(!slices.ContainsFunc(entries, func(s string) bool { return len(s) > 1<<19 }), tooLarge)
	must(len(entries) <= 1<<20, tooLarge)
	e := m.there(db, key)
	switch {
	case e == nil:
		m.put(db, key, &entry{kind: api.KindList, entries: entries})
	case len(entries) == 0:
		delete(m.spaces[db], key)
	default:
		e.entries = entries
		m.change(e)
	}
}

func (m *model) expire(db int, key string, at int) {
	e := m.there(db, key)
	switch {
	case e == nil:
	case at <= m.now:
		delete(m.spaces[db], key)
	default:
		e.due = at
		m.change(e)
	}
}

func (m *model) advance(n int) {
	m.now += n
	for _, keys := range m.spaces {
		for key, e := range keys {
			if e.due >= 0 && e.due <= m.now {
				delete(keys, key)
			}
		}
	}
}

// upper writes a to z as A to Z, and no other letters of the world.
func upper(s string) string {
	return strings.Map(func(r rune) rune {
		if r >= 'a' && r <= 'z' {
			return r - 'a' + 'A'
		}
		return r
	}, s)
}

func whole(word string) (int, bool) {
	if len(word) > 20 {
		return 0, false
	}
	n, ok := new(big.Int).SetString(word, 10)
	if !ok || n.String() != word || !n.IsInt64() {
		return 0, false
	}
	return int(n.Int64()), true
}

func mustNumber(word string) int {
	n, ok := whole(word)
	must(ok, noNumber)
	return n
}

func mustOne(word string, of ...string) string {
	must(slices.Contains(of, upper(word)), syntax)
	return upper(word)
}

func status() api.Reply              { return api.Reply{Kind: api.ReplyStatus, Text: "OK"} }
func count(n int) api.Reply          { return api.Reply{Kind: api.ReplyInt, N: n} }
func bulk(s string) api.Reply        { return api.Reply{Kind: api.ReplyBulk, Text: s} }
func array(l ...api.Reply) api.Reply { return api.Reply{Kind: api.ReplyArray, List: l} }
func nulls() api.Reply               { return api.Reply{Kind: api.ReplyNulls} }

func bulks(texts []string) api.Reply {
	r := array()
	for _, s := range texts {
		r.List = append(r.List, bulk(s))
	}
	return r
}

func entriesOf(e *entry) []string {
	if e == nil {
		return nil
	}
	return slices.Clone(e.entries)
}

func (m *model) run(db int, args []string) api.Reply {
	must(len(args) > 0, unknown)
	name := strings.ToLower(upper(args[0]))
	at := slices.IndexFunc(chapter(), func(r row) bool { return r.name == name })
	must(at >= 0, unknown)
	r := chapter()[at]
	must(len(args) >= r.least && (r.most < 0 || len(args) <= r.most), unknown)
	w := args[1:]
	switch name {
	case "lpush", "rpush", "lpushx", "rpushx":
		return m.push(db, name, w)
	case "lpop", "rpop":
		return m.pop(db, name, w)
	case "llen":
		return count(len(entriesOf(m.get(db, w[0]))))
	case "lindex", "lset":
		return m.single(db, name, w)
	case "linsert":
		return m.insert(db, w)
	case "lrange", "ltrim":
		return m.ranges(db, name, w)
	case "lrem":
		return m.remove(db, w)
	case "lpos":
		return m.pos(db, w)
	case "lmove":
		return m.move(db, w[0], w[1], mustOne(w[2], "LEFT", "RIGHT"), mustOne(w[3], "LEFT", "RIGHT"))
	case "rpoplpush":
		return m.move(db, w[0], w[1], "RIGHT", "LEFT")
	}
	return m.popMany(db, w)
}

func joined(entries []string, end string, more ...string) []string {
	if end == "RIGHT" {
		return append(entries, more...)
	}
	all := slices.Clone(more)
	slices.Reverse(all)
	return append(all, entries...)
}

// taken takes up to n entries out at an end: those that go, and those that stay.
func taken(entries []string, end string, n int) (gone, stay []string) {
	for len(gone) < n && len(entries) > 0 {
		last := len(entries) - 1
		if end == "LEFT" {
			gone, entries = append(gone, entries[0]), entries[1:]
		} else {
			gone, entries = append(gone, entries[last]), entries[:last]
		}
	}
	return gone, entries
}

// endOf is the end of a command whose name begins with it.
func endOf(name string) string { return map[byte]string{'l': "LEFT", 'r': "RIGHT"}[name[0]] }

func (m *model) push(db int, name string, w []string) api.Reply {
	e := m.get(db, w[0])
	if e == nil && name[len(name)-1] == 'x' {
		return count(0)
	}
	all := joined(entriesOf(e), endOf(name), w[1:]...)
	m.work(db, w[0], all)
	return count(len(all))
}

func (m *model) pop(db int, name string, w []string) api.Reply {
	n := 1
	if len(w) > 1 {
		var ok bool
		n, ok = whole(w[1])
		must(ok && n >= 0, notPositive)
	}
	e := m.get(db, w[0])
	if e == nil && len(w) > 1 {
		return nulls()
	}
	if e == nil {
		return api.Reply{}
	}
	gone, stay := taken(entriesOf(e), endOf(name), n)
	if n > 0 {
		m.work(db, w[0], stay)
	}
	if len(w) > 1 {
		return bulks(gone)
	}
	return bulk(gone[0])
}

func (m *model) single(db int, name string, w []string) api.Reply {
	i := mustNumber(w[1])
	e := m.get(db, w[0])
	all := entriesOf(e)
	if i < 0 {
		i = len(all) + i
	}
	if name == "lset" {
		must(e != nil, noKey)
		must(i >= 0 && i < len(all), noIndex)
		all[i] = w[2]
		m.work(db, w[0], all)
		return status()
	}
	if i < 0 || i >= len(all) {
		return api.Reply{}
	}
	return bulk(all[i])
}

func (m *model) insert(db int, w []string) api.Reply {
	where := mustOne(w[1], "BEFORE", "AFTER")
	e := m.get(db, w[0])
	if e == nil {
		return count(0)
	}
	var all []string
	found := false
	for _, s := range e.entries {
		now := s == w[2] && !found
		if now && where == "BEFORE" {
			all = append(all, w[3])
		}
		all = append(all, s)
		if now && where == "AFTER" {
			all = append(all, w[3])
		}
		found = found || now
	}
	if !found {
		return count(-1)
	}
	m.work(db, w[0], all)
	return count(len(all))
}

// between gives the places from a to b of so many, as the words of chapter 14 go on: the first and the last one, if there are some.
func between(a, b, of int) (int, int, bool) {
	if a < 0 && b < 0 && a > b {
		return 0, 0, false
	}
	if a < 0 {
		a = of + a
	}
	if b < 0 {
		b = of + b
	}
	if a < 0 {
		a = 0
	}
	if b < 0 {
		b = 0
	}
	if b > of-1 {
		b = of - 1
	}
	return a, b, of > 0 && a <= b
}

func (m *model) ranges(db int, name string, w []string) api.Reply {
	a, b := mustNumber(w[1]), mustNumber(w[2])
	e := m.get(db, w[0])
	var part []string
	if from, to, some := between(a, b, len(entriesOf(e))); some {
		part = e.entries[from : to+1]
	}
	if name == "lrange" {
		return bulks(part)
	}
	if e != nil {
		m.work(db, w[0], slices.Clone(part))
	}
	return status()
}

// looked gives the places of so many entries in the order in which they are looked at.
func looked(of int, back bool) []int {
	list := make([]int, of)
	for i := range list {
		list[i] = i
		if back {
			list[i] = of - 1 - i
		}
	}
	return list
}

func (m *model) remove(db int, w []string) api.Reply {
	n := mustNumber(w[1])
	e := m.get(db, w[0])
	all := entriesOf(e)
	left := new(big.Int).Abs(big.NewInt(int64(n)))
	gone := map[int]bool{}
	for _, i := range looked(len(all), n < 0) {
		if all[i] == w[2] && (n == 0 || left.Sign() > 0) {
			gone[i] = true
			left.Sub(left, big.NewInt(1))
		}
	}
	var stay []string
	for i, s := range all {
		if !gone[i] {
			stay = append(stay, s)
		}
	}
	if len(gone) > 0 {
		m.work(db, w[0], stay)
	}
	return count(len(gone))
}

func (m *model) pos(db int, w []string) api.Reply {
	options := w[2:]
	for i := 0; i < len(options); i += 2 {
		mustOne(options[i], "RANK", "COUNT", "MAXLEN")
		must(i+1 < len(options), syntax)
	}
	given := map[string]int{"RANK": 1}
	for i := 0; i < len(options); i += 2 {
		name, n := upper(options[i]), mustNumber(options[i+1])
		must(name != "RANK" || n != 0, noRank)
		must(name != "COUNT" || n >= 0, noCount)
		must(name != "MAXLEN" || n >= 0, noMaxlen)
		given[name] = n
	}
	all := entriesOf(m.get(db, w[0]))
	order := looked(len(all), given["RANK"] < 0)
	if most := given["MAXLEN"]; most > 0 && most < len(order) {
		order = order[:most]
	}
	pass := new(big.Int).Abs(big.NewInt(int64(given["RANK"])))
	places := []int{}
	for _, i := range order {
		if all[i] != w[1] {
			continue
		}
		if pass.Sub(pass, big.NewInt(1)).Sign() <= 0 {
			places = append(places, i)
		}
	}
	n, counted := given["COUNT"]
	if !counted && len(places) == 0 {
		return api.Reply{}
	}
	if !counted {
		return count(places[0])
	}
	r := array()
	for i, place := range places {
		if n == 0 || i < n {
			r.List = append(r.List, count(place))
		}
	}
	return r
}

func (m *model) move(db int, source, dest, from, to string) api.Reply {
	e := m.get(db, source)
	if e == nil {
		return api.Reply{}
	}
	d := m.get(db, dest)
	gone, stay := taken(entriesOf(e), from, 1)
	if source == dest {
		m.work(db, source, joined(stay, to, gone...))
	} else {
		m.work(db, dest, joined(entriesOf(d), to, gone...))
		m.work(db, source, stay)
	}
	return bulk(gone[0])
}

func (m *model) popMany(db int, w []string) api.Reply {
	n, ok := whole(w[0])
	must(ok && n > 0, noKeys)
	must(n < len(w)-1, syntax)
	keys, behind := w[1:n+1], w[n+2:]
	end := mustOne(w[n+1], "LEFT", "RIGHT")
	c := 1
	if len(behind) > 0 {
		mustOne(behind[0], "COUNT")
		must(len(behind) == 2, syntax)
		c, ok = whole(behind[1])
		must(ok, syntax)
		must(c > 0, noPops)
	}
	for _, key := range keys {
		e := m.get(db, key)
		if e == nil {
			continue
		}
		gone, stay := taken(entriesOf(e), end, c)
		m.work(db, key, stay)
		return array(bulk(key), bulks(gone))
	}
	return nulls()
}
