package zsets

import (
	"cmp"
	"fmt"
	"maps"
	"math/big"
	"slices"
	"strings"

	"cistern/api"
	"cistern/glob"
	"cistern/value"
)

// rows are the commands of chapter 18 with the least and the most words that chapter 13 tells of them.
const rows = `zadd 4 -1, zincrby 4 4, zrem 3 -1, zcard 2 2, zscore 3 3, zmscore 3 -1, zrank 3 4, zrevrank 3 4, zcount 4 4, zlexcount 4 4, zrange 4 -1, zrangestore 5 -1, zrevrange 4 5, zrangebyscore 4 -1, zrevrangebyscore 4 -1, zrangebylex 4 7, zrevrangebylex 4 7, zremrangebyrank 4 4, zremrangebyscore 4 4, zremrangebylex 4 4, zpopmin 2 3, zpopmax 2 3, zrandmember 2 4, zunion 3 -1, zinter 3 -1, zdiff 3 -1, zunionstore 4 -1, zinterstore 4 -1, zdiffstore 4 -1, zintercard 3 -1, zscan 3 7`

type row struct {
	name        string
	least, most int
}

func chapter() []row {
	var list []row
	for line := range strings.SplitSeq(rows, ",") {
		var r row
		if _, err := fmt.Sscan(line, &r.name, &r.least, &r.most); err != nil {
			panic(err)
		}
		list = append(list, r)
	}
	return list
}

// What clients are told, as the chapters say it.
const (
	unknown     = "ERR unknown command"
	syntax      = "ERR syntax error"
	wrongType   = "WRONGTYPE Operation against a key holding the wrong kind of value"
	tooLarge    = "ERR value is too large"
	tooMany     = "ERR too many keys"
	noNumber    = "ERR value is not an integer or out of range"
	noScore     = "ERR value is not a valid score"
	noBound     = "ERR min or max is not valid"
	noLex       = "ERR min or max not valid string range item"
	outOfRange  = "ERR resulting score is out of range"
	newAndOld   = "ERR XX and NX options at the same time are not compatible"
	notTogether = "ERR GT, LT, and/or NX options at the same time are not compatible"
	onlyOne     = "ERR INCR option supports a single increment-element pair"
	noLimit     = "ERR syntax error, LIMIT is only supported in combination with either BYSCORE or BYLEX"
	noScores    = "ERR syntax error, WITHSCORES not supported in combination with BYLEX"
	notPositive = "ERR value is out of range, must be positive"
	noSample    = "ERR value is out of range"
	noKeys      = "ERR numkeys should be greater than 0"
	manyKeys    = "ERR Number of keys can't be greater than number of args"
	below       = "ERR LIMIT can't be negative"
	noWeight    = "ERR weight value is not a valid score"
	noCursor    = "ERR invalid cursor"
)

// top is the greatest score.
const top = 1<<53 - 1

// entry is what the model knows of a key: the scores of a sorted set's members (of a set's: 1), or what a value of another kind shows.
type entry struct {
	kind      int
	scores    map[string]int
	kept      *value.Value // a sorted set beside its scores, to which layer 10's calls were made one by one: only how it is kept, and what a scan tells, hangs on it
	shows     string
	due       int
	mark, use int
}

// before is the order of the chapter.
func before(a, b api.Scored) int {
	if a.Score != b.Score {
		return cmp.Compare(a.Score, b.Score)
	}
	return strings.Compare(a.Member, b.Member)
}

// ordered are the members in order, or, back, turned round.
func (e *entry) ordered(back bool) []api.Scored {
	if e == nil {
		return nil
	}
	var list []api.Scored
	for member, score := range e.scores {
		list = append(list, api.Scored{Member: member, Score: score})
	}
	slices.SortFunc(list, before)
	if back {
		slices.Reverse(list)
	}
	return list
}

func (e *entry) score(member string) (int, bool) {
	if e == nil {
		return 0, false
	}
	score, ok := e.scores[member]
	return score, ok
}

func (e *entry) put(s api.Scored) {
	e.scores[s.Member] = s.Score
	if _, err := e.kept.ZAdd(s); err != api.OK {
		panic(err)
	}
}

func (e *entry) erase(member string) {
	delete(e.scores, member)
	if _, err := e.kept.ZDrop(member); err != api.OK {
		panic(err)
	}
}

// model is an abstract machine that knows maps alone.
type model struct {
	limits           api.Thresholds
	now, marks, uses int
	x                uint64
	spaces           []map[string]*entry
}

func newModel(limits api.Thresholds) *model {
	return &model{limits: limits, x: 1, spaces: []map[string]*entry{{}, {}}}
}

func (m *model) newZset(members ...api.Scored) *entry {
	v, err := value.New(api.KindZset, m.limits)
	if err != api.OK {
		panic(err)
	}
	e := &entry{kind: api.KindZset, scores: map[string]int{}, kept: v}
	for _, s := range members {
		e.put(s)
	}
	return e
}

// refused is what the model gives a command up with.
type refused string

func (m *model) do(db int, args []string) (r api.Reply) {
	defer func() {
		switch x := recover().(type) {
		case nil:
		case refused:
			r = api.Reply{Kind: api.ReplyError, Text: string(x)}
		default:
			panic(x)
		}
	}()
	return m.run(db, args)
}

func must(ok bool, text string) {
	if !ok {
		panic(refused(text))
	}
}

// next is the number by chance that comes next.
func (m *model) next(n int) int {
	x := new(big.Int).SetUint64(m.x)
	x.Mul(x, new(big.Int).SetUint64(6364136223846793005))
	x.Add(x, new(big.Int).SetUint64(1442695040888963407))
	return int((x.Uint64() >> 33) % uint64(n))
}

func (m *model) random(n int) int {
	got := m.next(n)
	m.x = m.x*6364136223846793005 + 1442695040888963407
	return got
}

func (m *model) there(db int, key string) *entry {
	if db < 0 || db >= len(m.spaces) {
		return nil
	}
	return m.spaces[db][key]
}

// get is a key that must be of one of these kinds; nil, if it is not there.
func (m *model) get(db int, key string, kinds ...int) *entry {
	e := m.there(db, key)
	if e != nil {
		m.uses++
		e.use = m.uses
	}
	must(e == nil || slices.Contains(kinds, e.kind), wrongType)
	return e
}

func (m *model) zset(db int, key string) *entry { return m.get(db, key, api.KindZset) }

func (m *model) change(e *entry) {
	m.marks++
	e.mark = m.marks
}

func (m *model) put(db int, key string, e *entry) {
	must(0 <= db && db < len(m.spaces), syntax)
	must(len(key) <= 1<<16, tooLarge)
	keys := 0
	for _, space := range m.spaces {
		keys += len(space)
	}
	must(m.there(db, key) != nil || keys < 1<<17, tooMany)
	e.due = -1
	m.spaces[db][key] = e
	m.change(e)
	m.uses++
	e.use = m.uses
}

// leave takes members out of a sorted set that is there, or not; how many were there.
func (m *model) leave(db int, key string, members ...string) int {
	e := m.there(db, key)
	if e == nil {
		return 0
	}
	before := len(e.scores)
	for _, member := range members {
		e.erase(member)
	}
	if len(e.scores) == 0 {
		delete(m.spaces[db], key)
	} else if len(e.scores) < before {
		m.change(e)
	}
	return before - len(e.scores)
}

// store makes dest of members, or lets it go.
func (m *model) store(db int, dest string, members []api.Scored) api.Reply {
	if len(members) > 0 {
		m.put(db, dest, m.newZset(members...))
	} else if m.there(db, dest) != nil {
		delete(m.spaces[db], dest)
	}
	return count(len(members))
}

func (m *model) expire(db int, key string, at int) {
	e := m.there(db, key)
	switch {
	case e == nil:
	case at <= m.now:
		delete(m.spaces[db], key)
	default:
		e.due = at
		m.change(e)
	}
}

func (m *model) advance(n int) {
	m.now += n
	for _, keys := range m.spaces {
		for key, e := range keys {
			if e.due >= 0 && e.due <= m.now {
				delete(keys, key)
			}
		}
	}
}

// upper writes a to z as A to Z, and no other letters of the world.
func upper(s string) string {
	return strings.Map(func(r rune) rune {
		if r >= 'a' && r <= 'z' {
			return r - 'a' + 'A'
		}
		return r
	}, s)
}

// within is a word's number, if it has one from low to high.
func within(word string, low, high int64) (int, bool) {
	if len(word) > 20 {
		return 0, false
	}
	n, ok := new(big.Int).SetString(word, 10)
	if !ok || n.String() != word || !n.IsInt64() || n.Int64() < low || n.Int64() > high {
		return 0, false
	}
	return int(n.Int64()), true
}

func number(word string) int {
	n, ok := within(word, -1<<63, 1<<63-1)
	must(ok, noNumber)
	return n
}

func score(word, text string) int {
	n, ok := within(word, -top, top)
	must(ok, text)
	return n
}

// inScores is a number that must be a score.
func inScores(n *big.Int) int {
	must(n.CmpAbs(big.NewInt(top)) <= 0, outOfRange)
	return int(n.Int64())
}

func plus(a, b int) int {
	return inScores(new(big.Int).Add(big.NewInt(int64(a)), big.NewInt(int64(b))))
}

func times(a, b int) int {
	return inScores(new(big.Int).Mul(big.NewInt(int64(a)), big.NewInt(int64(b))))
}

func count(n int) api.Reply          { return api.Reply{Kind: api.ReplyInt, N: n} }
func bulk(s string) api.Reply        { return api.Reply{Kind: api.ReplyBulk, Text: s} }
func array(l ...api.Reply) api.Reply { return api.Reply{Kind: api.ReplyArray, List: l} }
func null() api.Reply                { return api.Reply{Kind: api.ReplyNull} }

func bulks(texts ...string) api.Reply {
	r := array()
	for _, s := range texts {
		r.List = append(r.List, bulk(s))
	}
	return r
}

// members tells members, with scores or without.
func members(list []api.Scored, scores bool) api.Reply {
	r := array()
	for _, s := range list {
		r.List = append(r.List, bulk(s.Member))
		if scores {
			r.List = append(r.List, bulk(fmt.Sprint(s.Score)))
		}
	}
	return r
}

func maybe(score int, there bool) api.Reply {
	if !there {
		return null()
	}
	return bulk(fmt.Sprint(score))
}

func (m *model) run(db int, args []string) api.Reply {
	must(len(args) > 0, unknown)
	at := slices.IndexFunc(chapter(), func(r row) bool { return upper(r.name) == upper(args[0]) })
	must(at >= 0, unknown)
	r := chapter()[at]
	must(len(args) >= r.least && (r.most < 0 || len(args) <= r.most), unknown)
	w := args[1:]
	switch r.name {
	case "zadd":
		return m.add(db, w)
	case "zincrby":
		return m.rate(db, w[0], map[string]bool{"INCR": true}, w[1:])
	case "zrem":
		m.zset(db, w[0])
		return count(m.leave(db, w[0], w[1:]...))
	case "zcard":
		return count(len(m.zset(db, w[0]).ordered(false)))
	case "zscore":
		return maybe(m.zset(db, w[0]).score(w[1]))
	case "zmscore":
		r, e := array(), m.zset(db, w[0])
		for _, member := range w[1:] {
			r.List = append(r.List, maybe(e.score(member)))
		}
		return r
	case "zrank", "zrevrank":
		return m.rank(db, r.name == "zrevrank", w)
	case "zpopmin", "zpopmax":
		return m.pop(db, r.name == "zpopmax", w)
	case "zrandmember":
		return m.sample(db, w)
	case "zscan":
		return m.scan(db, w)
	case "zintercard":
		return m.card(db, w)
	case "zunion", "zinter", "zdiff":
		list, scores := m.several(db, r.name[1:], w, true)
		return members(list, scores)
	case "zunionstore", "zinterstore", "zdiffstore":
		list, _ := m.several(db, strings.TrimSuffix(r.name[1:], "store"), w[1:], false)
		return m.store(db, w[0], list)
	}
	return m.ranges(db, r.name, w)
}

func (m *model) ranges(db int, name string, w []string) api.Reply {
	whole := asked{limit: []string{"0", "-1"}}
	switch name {
	case "zcount":
		whole.by = "BYSCORE"
		return count(len(m.between(db, w[0], w[1], w[2], whole)))
	case "zlexcount":
		whole.by = "BYLEX"
		return count(len(m.between(db, w[0], w[1], w[2], whole)))
	case "zremrangebyrank", "zremrangebyscore", "zremrangebylex":
		whole.by = map[string]string{"score": "BYSCORE", "bylex": "BYLEX", "yrank": ""}[name[len(name)-5:]]
		var gone []string
		for _, s := range m.between(db, w[0], w[1], w[2], whole) {
			gone = append(gone, s.Member)
		}
		return count(m.leave(db, w[0], gone...))
	case "zrangestore":
		a := readAsked(asked{}, w[4:], "BYSCORE BYLEX REV LIMIT")
		return m.store(db, w[0], m.between(db, w[1], w[2], w[3], a))
	}
	var a asked
	switch name {
	case "zrange":
		a = readAsked(a, w[3:], "BYSCORE BYLEX REV LIMIT WITHSCORES")
	case "zrevrange":
		a = readAsked(asked{back: true}, w[3:], "WITHSCORES")
	case "zrangebyscore", "zrevrangebyscore":
		a = readAsked(asked{by: "BYSCORE", back: name[1:4] == "rev"}, w[3:], "LIMIT WITHSCORES")
	case "zrangebylex", "zrevrangebylex":
		a = readAsked(asked{by: "BYLEX", back: name[1:4] == "rev"}, w[3:], "LIMIT")
	}
	return members(m.between(db, w[0], w[1], w[2], a), a.scores)
}

func (m *model) add(db int, w []string) api.Reply {
	on := map[string]bool{}
	words := w[1:]
	for len(words) > 0 && slices.Contains([]string{"NX", "XX", "GT", "LT", "CH", "INCR"}, upper(words[0])) {
		on[upper(words[0])] = true
		words = words[1:]
	}
	must(len(words) > 0 && len(words)%2 == 0, syntax)
	must(!on["NX"] || !on["XX"], newAndOld)
	must(!on["GT"] || !on["LT"], notTogether)
	must(!on["NX"] || !on["GT"] && !on["LT"], notTogether)
	must(!on["INCR"] || len(words) == 2, onlyOne)
	return m.rate(db, w[0], on, words)
}

// rate does pairs, first on a copy of the scores.
func (m *model) rate(db int, key string, on map[string]bool, words []string) api.Reply {
	for i := 0; i < len(words); i += 2 {
		score(words[i], noScore)
	}
	e := m.zset(db, key)
	scores := map[string]int{}
	if e != nil {
		scores = maps.Clone(e.scores)
	}
	var done []api.Scored
	fresh, changed := 0, 0
	for i := 0; i < len(words); i += 2 {
		n, member := score(words[i], noScore), words[i+1]
		old, there := scores[member]
		if !there && on["XX"] || there && on["NX"] {
			continue
		}
		if there && on["INCR"] {
			n = plus(old, n)
		}
		if there && (on["GT"] && !(n > old) || on["LT"] && !(n < old)) {
			continue
		}
		scores[member] = n
		done = append(done, api.Scored{Member: member, Score: n})
		if !there {
			fresh++
		}
		if !there || n != old {
			changed++
		}
	}
	for _, s := range done {
		must(len(s.Member) <= 1<<19, tooLarge)
	}
	must(len(scores) <= 1<<20, tooLarge)
	switch {
	case len(done) == 0:
	case e == nil:
		m.put(db, key, m.newZset(done...))
	default:
		for _, s := range done {
			e.put(s)
		}
		if changed > 0 {
			m.change(e)
		}
	}
	switch {
	case on["INCR"] && len(done) == 0:
		return null()
	case on["INCR"]:
		return bulk(fmt.Sprint(done[0].Score))
	case on["CH"]:
		return count(changed)
	}
	return count(fresh)
}

func (m *model) rank(db int, back bool, w []string) api.Reply {
	must(len(w) < 3 || upper(w[2]) == "WITHSCORE", syntax)
	for i, s := range m.zset(db, w[0]).ordered(back) {
		if s.Member != w[1] {
			continue
		}
		if len(w) == 3 {
			return array(count(i), bulk(fmt.Sprint(s.Score)))
		}
		return count(i)
	}
	if len(w) == 3 {
		return api.Reply{Kind: api.ReplyNulls}
	}
	return null()
}

// asked is what is asked for of a range.
type asked struct {
	by           string
	back, scores bool
	limit        []string
}

// readAsked reads options, of which these words may stand.
func readAsked(a asked, words []string, known string) asked {
	had := map[string]bool{a.by: true}
	for len(words) > 0 {
		word := upper(words[0])
		words = words[1:]
		must(slices.Contains(strings.Fields(known), word), syntax)
		switch word {
		case "REV":
			a.back = true
		case "WITHSCORES":
			a.scores = true
		case "LIMIT":
			must(len(words) >= 2, syntax)
			a.limit, words = words[:2], words[2:]
		default:
			a.by = word
			had[word] = true
		}
	}
	must(!had["BYSCORE"] || !had["BYLEX"], syntax)
	must(a.limit == nil || a.by != "", noLimit)
	must(!a.scores || a.by != "BYLEX", noScores)
	return a
}

// between are the members of a key in a range, as they are told.
func (m *model) between(db int, key, first, last string, a asked) []api.Scored {
	skip, most := 0, -1
	if a.limit != nil {
		skip, most = number(a.limit[0]), number(a.limit[1])
	}
	if a.by == "" {
		from, to := number(first), number(last)
		all := m.zset(db, key).ordered(a.back)
		var list []api.Scored
		for i, s := range all {
			// Seen from the end the rank is below 0 by how many stand from here on.
			end := i - len(all)
			if (from >= 0 && i >= from || from < 0 && end >= from) && (to >= 0 && i <= to || to < 0 && end <= to) {
				list = append(list, s)
			}
		}
		return list
	}
	if a.back {
		first, last = last, first
	}
	in := map[string]func(low, high string) func(s api.Scored) bool{"BYSCORE": inScoresOf, "BYLEX": inMembersOf}[a.by](first, last)
	var list []api.Scored
	for _, s := range m.zset(db, key).ordered(a.back) {
		if !in(s) || skip < 0 {
			continue
		}
		if skip > 0 {
			skip--
		} else if most < 0 || len(list) < most {
			list = append(list, s)
		}
	}
	return list
}

// inScoresOf tells, by the words of chapter 4, which members lie between two ends.
func inScoresOf(low, high string) func(s api.Scored) bool {
	end := func(word string) (int, bool) { // the least or greatest score that is in, and whether the end is open
		bare, open := strings.CutPrefix(word, "(")
		switch upper(bare) {
		case "-INF":
			return -1 << 60, false
		case "+INF", "INF":
			return 1 << 60, false
		}
		return score(bare, noBound), open
	}
	lo, lowOpen := end(low)
	hi, highOpen := end(high)
	return func(s api.Scored) bool {
		return (s.Score > lo || s.Score == lo && !lowOpen) && (s.Score < hi || s.Score == hi && !highOpen)
	}
}

func inMembersOf(low, high string) func(s api.Scored) bool {
	for _, word := range []string{low, high} {
		must(word == "-" || word == "+" || word != "" && (word[0] == '[' || word[0] == '('), noLex)
	}
	return func(s api.Scored) bool {
		above := low == "-" || low[0] != '+' && (s.Member > low[1:] || s.Member == low[1:] && low[0] == '[')
		under := high == "+" || high[0] != '-' && (s.Member < high[1:] || s.Member == high[1:] && high[0] == '[')
		return above && under
	}
}

func (m *model) pop(db int, back bool, w []string) api.Reply {
	n := 1
	if len(w) > 1 {
		var ok bool
		n, ok = within(w[1], 0, 1<<63-1)
		must(ok, notPositive)
	}
	all := m.zset(db, w[0]).ordered(back)
	gone := all[:min(n, len(all))]
	for _, s := range gone {
		m.there(db, w[0]).erase(s.Member)
	}
	switch {
	case len(gone) == 0:
	case len(gone) == len(all):
		delete(m.spaces[db], w[0])
	default:
		m.change(m.there(db, w[0]))
	}
	return members(gone, true)
}

func (m *model) sample(db int, w []string) api.Reply {
	if len(w) == 1 {
		all := m.zset(db, w[0]).ordered(false)
		if len(all) == 0 {
			return null()
		}
		return bulk(all[m.random(len(all))].Member)
	}
	must(len(w) < 3 || upper(w[2]) == "WITHSCORES", syntax)
	n, ok := within(w[1], -1<<20, 1<<20)
	must(ok, noSample)
	all := m.zset(db, w[0]).ordered(false)
	var picked []api.Scored
	switch {
	case n < 0 && len(all) > 0:
		for range -n {
			picked = append(picked, all[m.random(len(all))])
		}
	case n >= len(all):
		picked = all
	case n >= 0:
		left := all
		for range n {
			i := m.random(len(left))
			picked = append(picked, left[i])
			left = slices.Delete(slices.Clone(left), i, i+1)
		}
	}
	return members(picked, len(w) == 3)
}

// keysOf are the keys behind the word that counts them, and the words behind them.
func keysOf(w []string) ([]string, []string) {
	n, ok := within(w[0], 1, 1<<63-1)
	must(ok, noKeys)
	must(n <= len(w)-1, manyKeys)
	return w[1 : n+1], w[n+1:]
}

// sources are the scores under keys that are sorted sets or sets.
func (m *model) sources(db int, keys []string) []*entry {
	var list []*entry
	for _, key := range keys {
		list = append(list, m.get(db, key, api.KindZset, api.KindSet))
	}
	return list
}

// has tells whether a sorted set of several keys has a member, by those that have it.
func has(how string, sources []*entry, member string) bool {
	n, first := 0, false
	for i, e := range sources {
		if _, there := e.score(member); there {
			n++
			first = first || i == 0
		}
	}
	switch how {
	case "union":
		return n > 0
	case "inter":
		return n == len(sources)
	}
	return n == 1 && first
}

func (m *model) several(db int, how string, w []string, told bool) ([]api.Scored, bool) {
	keys, words := keysOf(w)
	weights, aggregate, scores := slices.Repeat([]int{1}, len(keys)), "SUM", false
	for len(words) > 0 {
		word := upper(words[0])
		words = words[1:]
		switch {
		case word == "WEIGHTS" && how != "diff":
			for i := range weights {
				must(len(words) > 0, syntax)
				weights[i] = score(words[0], noWeight)
				words = words[1:]
			}
		case word == "AGGREGATE" && how != "diff":
			must(len(words) > 0, syntax)
			aggregate = upper(words[0])
			must(aggregate == "SUM" || aggregate == "MIN" || aggregate == "MAX", syntax)
			words = words[1:]
		case word == "WITHSCORES" && told:
			scores = true
		default:
			must(false, syntax)
		}
	}
	sources := m.sources(db, keys)
	all := map[string]bool{}
	for _, e := range sources {
		for _, s := range e.ordered(false) {
			all[s.Member] = true
		}
	}
	var list []api.Scored
	for member := range all {
		if !has(how, sources, member) {
			continue
		}
		total, some := 0, false
		for i, e := range sources {
			n, there := e.score(member)
			if !there {
				continue
			}
			n = times(n, weights[i])
			switch {
			case !some:
				total = n
			case aggregate == "SUM":
				total = plus(total, n)
			case aggregate == "MIN":
				total = min(total, n)
			case aggregate == "MAX":
				total = max(total, n)
			}
			some = true
		}
		list = append(list, api.Scored{Member: member, Score: total})
	}
	slices.SortFunc(list, before)
	return list, scores
}

func (m *model) card(db int, w []string) api.Reply {
	keys, words := keysOf(w)
	most := 0
	if len(words) > 0 {
		must(len(words) == 2 && upper(words[0]) == "LIMIT", syntax)
		n, ok := within(words[1], -1<<63, 1<<63-1)
		must(ok, syntax)
		must(n >= 0, below)
		most = n
	}
	sources := m.sources(db, keys)
	n := 0
	for _, s := range sources[0].ordered(false) {
		if has("inter", sources, s.Member) {
			n++
		}
	}
	if most > 0 && n > most {
		n = most
	}
	return count(n)
}

func (m *model) scan(db int, w []string) api.Reply {
	cursor, ok := within(w[1], 0, 1<<63-1)
	must(ok, noCursor)
	n, pattern, matched := 10, "", false
	for options := w[2:]; len(options) > 0; options = options[2:] {
		must(len(options) > 1, syntax)
		switch upper(options[0]) {
		case "MATCH":
			must(len(options[1]) <= 1024, syntax)
			pattern, matched = options[1], true
		case "COUNT":
			n, ok = within(options[1], 1, 1<<63-1)
			must(ok, syntax)
		default:
			must(false, syntax)
		}
	}
	e := m.zset(db, w[0])
	var all, met []string
	next := 0
	if e != nil {
		all, next, _ = e.kept.Scan(cursor, n)
	}
	for _, member := range all {
		if !matched || glob.Match(pattern, member, false) {
			met = append(met, member, fmt.Sprint(e.scores[member]))
		}
	}
	return array(bulk(fmt.Sprint(next)), bulks(met...))
}
