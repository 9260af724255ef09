package sets

import (
	"fmt"
	"maps"
	"math/big"
	"slices"
	"strings"

	"cistern/api"
	"cistern/glob"
	"cistern/value"
)

// rows are the commands of chapter 16 with the least and the most words that chapter 13 tells of them.
const rows = `sadd 3 -1, srem 3 -1, sismember 3 3, smismember 3 -1, scard 2 2, smembers 2 2, spop 2 3, srandmember 2 3, smove 4 4, sinter 2 -1, sunion 2 -1, sdiff 2 -1, sinterstore 3 -1, sunionstore 3 -1, sdiffstore 3 -1, sintercard 3 -1, sscan 3 7`

type row struct {
	name        string
	least, most int
}

func chapter() []row {
	var list []row
	for line := range strings.SplitSeq(rows, ",") {
		var r row
		if _, err := fmt.Sscan(line, &r.name, &r.least, &r.most); err != nil {
			panic(err)
		}
		list = append(list, r)
	}
	return list
}

// What clients are told, as the chapters say it.
const (
	unknown     = "ERR unknown command"
	syntax      = "ERR syntax error"
	wrongType   = "WRONGTYPE Operation against a key holding the wrong kind of value"
	tooLarge    = "ERR value is too large"
	tooMany     = "ERR too many keys"
	notPositive = "ERR value is out of range, must be positive"
	noSample    = "ERR value is out of range"
	noKeys      = "ERR numkeys should be greater than 0"
	manyKeys    = "ERR Number of keys can't be greater than number of args"
	noLimit     = "ERR LIMIT can't be negative"
	noCursor    = "ERR invalid cursor"
)

// entry is what the model knows of a key: a set's members, or what a value of another kind shows.
type entry struct {
	kind      int
	members   map[string]bool
	kept      *value.Value // a set beside its members, to which layer 10's calls were made one by one: only how it is kept, and what a scan tells, hangs on it
	shows     string
	due       int
	mark, use int
}

func (e *entry) rising() []string {
	if e == nil {
		return nil
	}
	return slices.Sorted(maps.Keys(e.members))
}

func (e *entry) has(member string) bool { return e != nil && e.members[member] }

func (e *entry) add(member string) {
	e.members[member] = true
	if _, err := e.kept.Add(member); err != api.OK {
		panic(err)
	}
}

func (e *entry) drop(member string) {
	delete(e.members, member)
	if _, err := e.kept.Drop(member); err != api.OK {
		panic(err)
	}
}

// model is an abstract machine that knows maps alone.
type model struct {
	limits           api.Thresholds
	now, marks, uses int
	x                uint64
	spaces           []map[string]*entry
}

func newModel(limits api.Thresholds) *model {
	return &model{limits: limits, x: 1, spaces: []map[string]*entry{{}, {}}}
}

func (m *model) newSet(members ...string) *entry {
	v, err := value.New(api.KindSet, m.limits)
	if err != api.OK {
		panic(err)
	}
	e := &entry{kind: api.KindSet, members: map[string]bool{}, kept: v}
	for _, s := range members {
		e.add(s)
	}
	return e
}

// refused is what the model gives a command up with.
type refused string

func (m *model) do(db int, args []string) (r api.Reply) {
	defer func() {
		switch x := recover().(type) {
		case nil:
		case refused:
			r = api.Reply{Kind: api.ReplyError, Text: string(x)}
		default:
			panic(x)
		}
	}()
	return m.run(db, args)
}

func must(ok bool, text string) {
	if !ok {
		panic(refused(text))
	}
}

// next is the number by chance that comes next.
func (m *model) next(n int) int {
	x := new(big.Int).SetUint64(m.x)
	x.Mul(x, new(big.Int).SetUint64(6364136223846793005))
	x.Add(x, new(big.Int).SetUint64(1442695040888963407))
	return int((x.Uint64() >> 33) % uint64(n))
}

func (m *model) random(n int) int {
	got := m.next(n)
	m.x = m.x*6364136223846793005 + 1442695040888963407
	return got
}

func (m *model) there(db int, key string) *entry {
	if db < 0 || db >= len(m.spaces) {
		return nil
	}
	return m.spaces[db][key]
}

// get is a key that must be a set; nil, if it is not there.
func (m *model) get(db int, key string) *entry {
	e := m.there(db, key)
	if e != nil {
		m.uses++
		e.use = m.uses
	}
	must(e == nil || e.kind == api.KindSet, wrongType)
	return e
}

func (m *model) change(e *entry) {
	m.marks++
	e.mark = m.marks
}

func (m *model) put(db int, key string, e *entry) {
	must(0 <= db && db < len(m.spaces), syntax)
	must(len(key) <= 1<<16, tooLarge)
	keys := 0
	for _, space := range m.spaces {
		keys += len(space)
	}
	must(m.there(db, key) != nil || keys < 1<<17, tooMany)
	e.due = -1
	m.spaces[db][key] = e
	m.change(e)
	m.uses++
	e.use = m.uses
}

// workedOn says that members have come to a set that is there, or gone from it.
func (m *model) workedOn(db int, key string) {
	e := m.there(db, key)
	if len(e.members) == 0 {
		delete(m.spaces[db], key)
		return
	}
	m.change(e)
}

// join lets members join a set, which may not be there; how many are new.
func (m *model) join(db int, key string, members ...string) int {
	e := m.there(db, key)
	fresh := map[string]bool{}
	for _, s := range members {
		must(len(s) <= 1<<19, tooLarge)
		if !e.has(s) {
			fresh[s] = true
		}
	}
	if e == nil {
		must(len(fresh) <= 1<<20, tooLarge)
		m.put(db, key, m.newSet(members...))
		return len(fresh)
	}
	must(len(e.members)+len(fresh) <= 1<<20, tooLarge)
	for _, s := range members {
		e.add(s)
	}
	if len(fresh) > 0 {
		m.workedOn(db, key)
	}
	return len(fresh)
}

// leave takes members out of a set that is there, or not; how many were there.
func (m *model) leave(db int, key string, members ...string) int {
	e := m.there(db, key)
	if e == nil {
		return 0
	}
	before := len(e.members)
	for _, s := range members {
		e.drop(s)
	}
	gone := before - len(e.members)
	if gone > 0 {
		m.workedOn(db, key)
	}
	return gone
}

func (m *model) expire(db int, key string, at int) {
	e := m.there(db, key)
	switch {
	case e == nil:
	case at <= m.now:
		delete(m.spaces[db], key)
	default:
		e.due = at
		m.change(e)
	}
}

func (m *model) advance(n int) {
	m.now += n
	for _, keys := range m.spaces {
		for key, e := range keys {
			if e.due >= 0 && e.due <= m.now {
				delete(keys, key)
			}
		}
	}
}

// upper writes a to z as A to Z, and no other letters of the world.
func upper(s string) string {
	return strings.Map(func(r rune) rune {
		if r >= 'a' && r <= 'z' {
			return r - 'a' + 'A'
		}
		return r
	}, s)
}

func whole(word string) (int, bool) {
	if len(word) > 20 {
		return 0, false
	}
	n, ok := new(big.Int).SetString(word, 10)
	if !ok || n.String() != word || !n.IsInt64() {
		return 0, false
	}
	return int(n.Int64()), true
}

func count(n int) api.Reply          { return api.Reply{Kind: api.ReplyInt, N: n} }
func bulk(s string) api.Reply        { return api.Reply{Kind: api.ReplyBulk, Text: s} }
func array(l ...api.Reply) api.Reply { return api.Reply{Kind: api.ReplyArray, List: l} }

func bulks(kind int, texts []string) api.Reply {
	r := api.Reply{Kind: kind}
	for _, s := range texts {
		r.List = append(r.List, bulk(s))
	}
	return r
}

func asked(yes bool) api.Reply {
	if yes {
		return count(1)
	}
	return count(0)
}

func (m *model) run(db int, args []string) api.Reply {
	must(len(args) > 0, unknown)
	at := slices.IndexFunc(chapter(), func(r row) bool { return upper(r.name) == upper(args[0]) })
	must(at >= 0, unknown)
	r := chapter()[at]
	must(len(args) >= r.least && (r.most < 0 || len(args) <= r.most), unknown)
	w := args[1:]
	switch r.name {
	case "sadd":
		m.get(db, w[0])
		return count(m.join(db, w[0], w[1:]...))
	case "srem":
		m.get(db, w[0])
		return count(m.leave(db, w[0], w[1:]...))
	case "sismember":
		return asked(m.get(db, w[0]).has(w[1]))
	case "smismember":
		e, r := m.get(db, w[0]), array()
		for _, s := range w[1:] {
			r.List = append(r.List, asked(e.has(s)))
		}
		return r
	case "scard":
		return count(len(m.get(db, w[0]).rising()))
	case "smembers":
		return bulks(api.ReplySet, m.get(db, w[0]).rising())
	case "spop":
		return m.pop(db, w)
	case "srandmember":
		return m.sample(db, w)
	case "smove":
		return m.move(db, w[0], w[1], w[2])
	case "sintercard":
		return m.common(db, w)
	case "sscan":
		return m.scan(db, w)
	}
	return m.several(db, r.name, w)
}

// draw takes one of a list by chance: it, and the others.
func (m *model) draw(list []string) (string, []string) {
	i := m.random(len(list))
	return list[i], slices.Delete(slices.Clone(list), i, i+1)
}

func (m *model) pop(db int, w []string) api.Reply {
	n, counted := 1, len(w) > 1
	if counted {
		var ok bool
		n, ok = whole(w[1])
		must(ok && n >= 0, notPositive)
	}
	e := m.get(db, w[0])
	if e == nil && !counted {
		return api.Reply{}
	}
	left := e.rising()
	var gone []string
	for len(gone) < n && len(left) > 0 {
		var one string
		one, left = m.draw(left)
		gone = append(gone, one)
	}
	m.leave(db, w[0], gone...)
	if !counted {
		return bulk(gone[0])
	}
	return bulks(api.ReplySet, gone)
}

func (m *model) sample(db int, w []string) api.Reply {
	if len(w) == 1 {
		e := m.get(db, w[0])
		if e == nil {
			return api.Reply{}
		}
		one, _ := m.draw(e.rising())
		return bulk(one)
	}
	n, ok := whole(w[1])
	must(ok && n >= -1<<20 && n <= 1<<20, noSample)
	all := m.get(db, w[0]).rising()
	var picked []string
	switch {
	case n < 0 && len(all) > 0:
		for range -n {
			picked = append(picked, all[m.random(len(all))])
		}
	case n >= len(all):
		picked = all
	case n >= 0:
		left := all
		for range n {
			var one string
			one, left = m.draw(left)
			picked = append(picked, one)
		}
	}
	return bulks(api.ReplyArray, picked)
}

func (m *model) move(db int, source, dest, member string) api.Reply {
	e := m.get(db, source)
	if e == nil {
		return count(0)
	}
	m.get(db, dest)
	if !e.has(member) {
		return count(0)
	}
	if source != dest {
		m.join(db, dest, member)
		m.leave(db, source, member)
	}
	return count(1)
}

// combined are the members, rising, of a set of several keys.
func (m *model) combined(db int, name string, keys []string) []string {
	in, inFirst := map[string]int{}, map[string]bool{}
	for i, key := range keys {
		for _, s := range m.get(db, key).rising() {
			in[s]++
			if i == 0 {
				inFirst[s] = true
			}
		}
	}
	var list []string
	for s, n := range in {
		if name == "sunion" || name == "sinter" && n == len(keys) || name == "sdiff" && inFirst[s] && n == 1 {
			list = append(list, s)
		}
	}
	slices.Sort(list)
	return list
}

func (m *model) several(db int, name string, w []string) api.Reply {
	if kind, store := strings.CutSuffix(name, "store"); store {
		members := m.combined(db, kind, w[1:])
		if len(members) == 0 {
			if m.there(db, w[0]) != nil {
				delete(m.spaces[db], w[0])
			}
			return count(0)
		}
		must(len(members) <= 1<<20, tooLarge)
		m.put(db, w[0], m.newSet(members...))
		return count(len(members))
	}
	return bulks(api.ReplySet, m.combined(db, name, w))
}

func (m *model) common(db int, w []string) api.Reply {
	n, ok := whole(w[0])
	must(ok && n > 0, noKeys)
	must(n <= len(w)-1, manyKeys)
	keys, behind, most := w[1:n+1], w[n+1:], 0
	if len(behind) > 0 {
		must(len(behind) == 2 && upper(behind[0]) == "LIMIT", syntax)
		most, ok = whole(behind[1])
		must(ok, syntax)
		must(most >= 0, noLimit)
	}
	all := len(m.combined(db, "sinter", keys))
	if most > 0 && all > most {
		all = most
	}
	return count(all)
}

func (m *model) scan(db int, w []string) api.Reply {
	cursor, ok := whole(w[1])
	must(ok && cursor >= 0, noCursor)
	n, pattern, matched := 10, "", false
	for options := w[2:]; len(options) > 0; options = options[2:] {
		must(len(options) > 1, syntax)
		switch upper(options[0]) {
		case "MATCH":
			must(len(options[1]) <= 1024, syntax)
			pattern, matched = options[1], true
		case "COUNT":
			n, ok = whole(options[1])
			must(ok && n > 0, syntax)
		default:
			must(false, syntax)
		}
	}
	e := m.get(db, w[0])
	var all, met []string
	next := 0
	if e != nil {
		all, next, _ = e.kept.Scan(cursor, n)
	}
	for _, s := range all {
		if !matched || glob.Match(pattern, s, false) {
			met = append(met, s)
		}
	}
	return array(bulk(fmt.Sprint(next)), bulks(api.ReplyArray, met))
}
