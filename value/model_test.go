package value

import (
	"cmp"
	"slices"
	"strings"

	"cistern/api"
	"cistern/dict"
	"cistern/intset"
	"cistern/listpack"
	"cistern/quicklist"
	"cistern/varint"
)

// target is what a Value and the model are both asked.
type target interface {
	Kind() int
	Encoding() string
	Raw() []string
	Len() int
	Size() int
	Scan(cursor int, n int) ([]string, int, api.Errno)
	Text() (string, api.Errno)
	SetText(s string) api.Errno
	Push(front bool, entries ...string) api.Errno
	Pop(front bool, n int) ([]string, api.Errno)
	At(i int) (string, api.Errno)
	SetAt(i int, entry string) api.Errno
	Insert(i int, entry string) api.Errno
	Remove(i int, n int) api.Errno
	Range(i int, n int) ([]string, api.Errno)
	Add(members ...string) (int, api.Errno)
	Drop(members ...string) (int, api.Errno)
	Has(member string) (bool, api.Errno)
	Members() ([]string, api.Errno)
	Put(fields ...api.Field) (int, api.Errno)
	Erase(names ...string) (int, api.Errno)
	Field(name string) (string, bool, api.Errno)
	Fields() ([]api.Field, api.Errno)
	ZAdd(members ...api.Scored) (int, api.Errno)
	ZDrop(members ...string) (int, api.Errno)
	Score(member string) (int, bool, api.Errno)
	Rank(member string, back bool) (int, bool, api.Errno)
	ByRank(i int, n int, back bool) ([]api.Scored, api.Errno)
	ByScore(lo api.Bound, hi api.Bound, back bool, skip int, most int) ([]api.Scored, api.Errno)
	ByLex(lo api.Lex, hi api.Lex, back bool, skip int, most int) ([]api.Scored, api.Errno)
}

// model is a value by the chapter's words alone: each thing joins by itself, and what is asked for is sought in plain lists.
type model struct {
	kind   int
	th     api.Thresholds
	text   string
	list   []string
	nodes  *quicklist.List
	enc    string
	names  []string // as they stand in a compact one, in the order in which they joined in an expanded one
	texts  map[string]string
	scores map[string]int
	ints   string
	dict   *dict.Dict[int]
}

func newModel(kind int, th api.Thresholds) *model {
	m := &model{kind: kind, th: th, texts: map[string]string{}, scores: map[string]int{}, ints: intset.New()}
	m.nodes, _ = quicklist.New(th.ListEntries, th.ListBytes)
	m.enc = "listpack"
	if kind == api.KindSet {
		m.enc = "intset"
	}
	return m
}

func (m *model) Kind() int { return m.kind }

func (m *model) Encoding() string {
	switch m.kind {
	case api.KindString:
		if _, ok := varint.Number(m.text); ok {
			return "int"
		}
		if len(m.text) <= 44 {
			return "embstr"
		}
		return "raw"
	case api.KindList:
		if len(m.nodes.Nodes()) > 1 {
			return "quicklist"
		}
	}
	return m.enc
}

func (m *model) expanded() bool { return m.enc == "hashtable" || m.enc == "skiplist" }

func packOf(values []string) string {
	p, err := listpack.New(values...)
	if err != api.OK {
		panic(err)
	}
	return p
}

// pairs gives the names, each with what it has behind it.
func (m *model) pairs(names []string) []string {
	var list []string
	for _, name := range names {
		list = append(list, name)
		switch m.kind {
		case api.KindHash:
			list = append(list, m.texts[name])
		case api.KindZset:
			list = append(list, varint.Digits(m.scores[name]))
		}
	}
	return list
}

func (m *model) Raw() []string {
	switch {
	case m.kind == api.KindString:
		return []string{m.text}
	case m.kind == api.KindList:
		return m.nodes.Nodes()
	case m.enc == "intset":
		return []string{m.ints}
	case m.enc == "listpack":
		return []string{packOf(m.pairs(m.standing()))}
	case m.kind == api.KindZset:
		return m.pairs(m.standing())
	}
	return m.pairs(sorted(m.names))
}

// standing gives the names as they stand: those of a sorted set in order.
func (m *model) standing() []string {
	if m.kind != api.KindZset {
		return m.names
	}
	var list []string
	for _, s := range m.ordered(false) {
		list = append(list, s.Member)
	}
	return list
}

func sorted(list []string) []string {
	list = slices.Clone(list)
	slices.Sort(list)
	return list
}

func (m *model) Len() int {
	switch m.kind {
	case api.KindString:
		return len(m.text)
	case api.KindList:
		return len(m.list)
	}
	return len(m.names)
}

func (m *model) Size() int {
	size := 48
	switch m.kind {
	case api.KindString:
		return size + len(m.text)
	case api.KindList:
		for _, s := range m.list {
			size += len(s) + 16
		}
	case api.KindSet:
		for _, s := range m.names {
			size += len(s) + 16
		}
	case api.KindHash:
		for _, s := range m.names {
			size += len(s) + len(m.texts[s]) + 32
		}
	case api.KindZset:
		for _, s := range m.names {
			size += len(s) + 24
		}
	}
	return size
}

func (m *model) Scan(cursor int, n int) ([]string, int, api.Errno) {
	if m.kind == api.KindString || m.kind == api.KindList {
		return nil, 0, api.ErrKind
	}
	if m.expanded() {
		names, next := m.dict.Scan(cursor, n)
		return names, next, api.OK
	}
	return m.standing(), 0, api.OK
}

func (m *model) Text() (string, api.Errno) {
	if m.kind != api.KindString {
		return "", api.ErrKind
	}
	return m.text, api.OK
}

func (m *model) SetText(s string) api.Errno {
	if m.kind != api.KindString {
		return api.ErrKind
	}
	if len(s) > api.MaxElement {
		return api.ErrLong
	}
	m.text = s
	return api.OK
}

func long(texts ...string) bool {
	for _, s := range texts {
		if len(s) > api.MaxElement {
			return true
		}
	}
	return false
}

func (m *model) Push(front bool, entries ...string) api.Errno {
	if m.kind != api.KindList {
		return api.ErrKind
	}
	if long(entries...) || len(m.list)+len(entries) > api.MaxCount {
		return api.ErrLong
	}
	for _, s := range entries {
		m.nodes.Push(s, front)
		if front {
			m.list = append([]string{s}, m.list...)
		} else {
			m.list = append(m.list, s)
		}
	}
	return api.OK
}

func (m *model) Pop(front bool, n int) ([]string, api.Errno) {
	if m.kind != api.KindList {
		return nil, api.ErrKind
	}
	if n < 0 {
		return nil, api.ErrArg
	}
	var taken []string
	for len(taken) < n && len(m.list) > 0 {
		s, _ := m.nodes.Pop(front)
		taken = append(taken, s)
		if front {
			m.list = m.list[1:]
		} else {
			m.list = m.list[:len(m.list)-1]
		}
	}
	return taken, api.OK
}

func (m *model) has(i int) bool { return i >= 0 && i < len(m.list) }

func (m *model) At(i int) (string, api.Errno) {
	if m.kind != api.KindList {
		return "", api.ErrKind
	}
	if !m.has(i) {
		return "", api.ErrNone
	}
	return m.list[i], api.OK
}

func (m *model) SetAt(i int, entry string) api.Errno {
	if m.kind != api.KindList {
		return api.ErrKind
	}
	if !m.has(i) {
		return api.ErrNone
	}
	if long(entry) {
		return api.ErrLong
	}
	m.nodes.Set(i, entry)
	m.list = slices.Concat(m.list[:i], []string{entry}, m.list[i+1:])
	return api.OK
}

func (m *model) Insert(i int, entry string) api.Errno {
	if m.kind != api.KindList {
		return api.ErrKind
	}
	if i != len(m.list) && !m.has(i) {
		return api.ErrArg
	}
	if long(entry) || len(m.list) == api.MaxCount {
		return api.ErrLong
	}
	m.nodes.Insert(i, entry)
	m.list = slices.Concat(m.list[:i], []string{entry}, m.list[i:])
	return api.OK
}

func (m *model) Remove(i int, n int) api.Errno {
	if m.kind != api.KindList {
		return api.ErrKind
	}
	if i < 0 || n < 0 {
		return api.ErrArg
	}
	for ; n > 0 && m.has(i); n-- {
		m.nodes.Delete(i, 1)
		m.list = slices.Concat(m.list[:i], m.list[i+1:])
	}
	return api.OK
}

func (m *model) Range(i int, n int) ([]string, api.Errno) {
	if m.kind != api.KindList {
		return nil, api.ErrKind
	}
	if i < 0 || n < 0 {
		return nil, api.ErrArg
	}
	var list []string
	for ; n > 0 && m.has(i); n-- {
		list = append(list, m.list[i])
		i++
	}
	return list, api.OK
}

func (m *model) knows(name string) bool { return slices.Contains(m.names, name) }

// overfull tells whether there would be too many names.
func (m *model) overfull(names []string) bool {
	all := map[string]int{}
	for _, name := range slices.Concat(m.names, names) {
		all[name] = 1
	}
	return len(all) > api.MaxCount
}

// expand turns it: all that it had are Set first, then the one that made it turn.
func (m *model) expand(enc, name string) {
	m.dict = dict.New[int](0)
	for _, old := range m.standing() {
		m.dict.Set(old, 0)
	}
	m.dict.Set(name, 0)
	m.enc = enc
}

func (m *model) join(name string) {
	if !m.knows(name) {
		m.names = append(m.names, name)
	}
}

func (m *model) Add(members ...string) (int, api.Errno) {
	if m.kind != api.KindSet {
		return 0, api.ErrKind
	}
	if long(members...) || m.overfull(members) {
		return 0, api.ErrLong
	}
	old := len(m.names)
	for _, member := range members {
		m.add(member)
	}
	return len(m.names) - old, api.OK
}

func (m *model) add(member string) {
	if m.enc == "hashtable" {
		m.dict.Set(member, 0)
		m.join(member)
		return
	}
	if m.knows(member) {
		return
	}
	number, isNumber := varint.Number(member)
	then := append(slices.Clone(m.names), member)
	switch {
	case m.enc == "intset" && isNumber && len(then) <= m.th.SetInts:
		m.ints, _, _ = intset.Add(m.ints, number)
		slices.SortFunc(then, func(a, b string) int {
			x, _ := varint.Number(a)
			y, _ := varint.Number(b)
			return cmp.Compare(x, y)
		})
	case len(then) <= m.th.SetEntries && longest(then) <= m.th.SetBytes:
		m.enc = "listpack"
	default:
		m.expand("hashtable", member)
	}
	m.names = then
}

func longest(texts []string) int {
	most := 0
	for _, s := range texts {
		most = max(most, len(s))
	}
	return most
}

// dropAll takes names out, one after the other; how many were there.
func (m *model) dropAll(names []string) int {
	old := len(m.names)
	for _, name := range names {
		if m.expanded() {
			m.dict.Delete(name)
		}
		if i := slices.Index(m.names, name); i >= 0 {
			m.names = slices.Concat(m.names[:i], m.names[i+1:])
			if m.enc == "intset" {
				n, _ := varint.Number(name)
				m.ints, _, _ = intset.Drop(m.ints, n)
			}
		}
	}
	return old - len(m.names)
}

func (m *model) Drop(members ...string) (int, api.Errno) {
	if m.kind != api.KindSet {
		return 0, api.ErrKind
	}
	return m.dropAll(members), api.OK
}

func (m *model) Has(member string) (bool, api.Errno) {
	if m.kind != api.KindSet {
		return false, api.ErrKind
	}
	return m.knows(member), api.OK
}

func (m *model) Members() ([]string, api.Errno) {
	if m.kind != api.KindSet {
		return nil, api.ErrKind
	}
	return sorted(m.names), api.OK
}

func (m *model) Put(fields ...api.Field) (int, api.Errno) {
	if m.kind != api.KindHash {
		return 0, api.ErrKind
	}
	var names []string
	for _, f := range fields {
		if long(f.Name, f.Value) {
			return 0, api.ErrLong
		}
		names = append(names, f.Name)
	}
	if m.overfull(names) {
		return 0, api.ErrLong
	}
	old := len(m.names)
	for _, f := range fields {
		m.put(f)
	}
	return len(m.names) - old, api.OK
}

func (m *model) put(f api.Field) {
	then := len(m.names)
	if !m.knows(f.Name) {
		then++
	}
	if m.enc == "hashtable" {
		m.dict.Set(f.Name, 0)
	} else if then > m.th.HashEntries || len(f.Name) > m.th.HashBytes || len(f.Value) > m.th.HashBytes {
		m.expand("hashtable", f.Name)
	}
	m.join(f.Name)
	m.texts[f.Name] = f.Value
}

func (m *model) Erase(names ...string) (int, api.Errno) {
	if m.kind != api.KindHash {
		return 0, api.ErrKind
	}
	return m.dropAll(names), api.OK
}

func (m *model) Field(name string) (string, bool, api.Errno) {
	if m.kind != api.KindHash {
		return "", false, api.ErrKind
	}
	if !m.knows(name) {
		return "", false, api.OK
	}
	return m.texts[name], true, api.OK
}

func (m *model) Fields() ([]api.Field, api.Errno) {
	if m.kind != api.KindHash {
		return nil, api.ErrKind
	}
	var list []api.Field
	for _, name := range sorted(m.names) {
		list = append(list, api.Field{Name: name, Value: m.texts[name]})
	}
	return list, api.OK
}

func (m *model) ZAdd(members ...api.Scored) (int, api.Errno) {
	if m.kind != api.KindZset {
		return 0, api.ErrKind
	}
	var names []string
	for _, s := range members {
		names = append(names, s.Member)
	}
	if long(names...) || m.overfull(names) {
		return 0, api.ErrLong
	}
	for _, s := range members {
		if s.Score < -(1<<53-1) || s.Score > 1<<53-1 {
			return 0, api.ErrNumber
		}
	}
	old := len(m.names)
	for _, s := range members {
		m.rate(s)
	}
	return len(m.names) - old, api.OK
}

func (m *model) rate(s api.Scored) {
	joins := !m.knows(s.Member)
	if m.enc == "skiplist" {
		m.dict.Set(s.Member, 0)
	} else if joins && (len(m.names)+1 > m.th.ZsetEntries || len(s.Member) > m.th.ZsetBytes) {
		m.expand("skiplist", s.Member)
	}
	m.join(s.Member)
	m.scores[s.Member] = s.Score
}

func (m *model) ZDrop(members ...string) (int, api.Errno) {
	if m.kind != api.KindZset {
		return 0, api.ErrKind
	}
	return m.dropAll(members), api.OK
}

func (m *model) Score(member string) (int, bool, api.Errno) {
	if m.kind != api.KindZset {
		return 0, false, api.ErrKind
	}
	if !m.knows(member) {
		return 0, false, api.OK
	}
	return m.scores[member], true, api.OK
}

// ordered gives the members in order, or turned round.
func (m *model) ordered(back bool) []api.Scored {
	var list []api.Scored
	for _, name := range m.names {
		list = append(list, api.Scored{Member: name, Score: m.scores[name]})
	}
	slices.SortFunc(list, func(a, b api.Scored) int {
		if a.Score < b.Score || a.Score == b.Score && a.Member < b.Member {
			return -1
		}
		return 1
	})
	if back {
		slices.Reverse(list)
	}
	return list
}

func (m *model) Rank(member string, back bool) (int, bool, api.Errno) {
	if m.kind != api.KindZset {
		return 0, false, api.ErrKind
	}
	for i, s := range m.ordered(back) {
		if s.Member == member {
			return i, true, api.OK
		}
	}
	return 0, false, api.OK
}

func (m *model) ByRank(i int, n int, back bool) ([]api.Scored, api.Errno) {
	if m.kind != api.KindZset {
		return nil, api.ErrKind
	}
	if i < 0 || n < 0 {
		return nil, api.ErrArg
	}
	var list []api.Scored
	for rank, s := range m.ordered(back) {
		if rank >= i && len(list) < n {
			list = append(list, s)
		}
	}
	return list, api.OK
}

// some gives what skip and most leave of those for which in holds.
func (m *model) some(in func(api.Scored) bool, back bool, skip, most int) []api.Scored {
	var list []api.Scored
	if skip < 0 {
		return nil
	}
	met := 0
	for _, s := range m.ordered(back) {
		if !in(s) {
			continue
		}
		met++
		if met > skip && (most < 0 || len(list) < most) {
			list = append(list, s)
		}
	}
	return list
}

func (m *model) ByScore(lo api.Bound, hi api.Bound, back bool, skip int, most int) ([]api.Scored, api.Errno) {
	if m.kind != api.KindZset {
		return nil, api.ErrKind
	}
	return m.some(func(s api.Scored) bool {
		low := lo.Inf < 0 || lo.Inf == 0 && (s.Score > lo.Score || s.Score == lo.Score && !lo.Open)
		high := hi.Inf > 0 || hi.Inf == 0 && (s.Score < hi.Score || s.Score == hi.Score && !hi.Open)
		return low && high
	}, back, skip, most), api.OK
}

func (m *model) ByLex(lo api.Lex, hi api.Lex, back bool, skip int, most int) ([]api.Scored, api.Errno) {
	if m.kind != api.KindZset {
		return nil, api.ErrKind
	}
	return m.some(func(s api.Scored) bool {
		above, below := strings.Compare(s.Member, lo.Text), strings.Compare(s.Member, hi.Text)
		low := lo.Inf < 0 || lo.Inf == 0 && (above > 0 || above == 0 && !lo.Open)
		high := hi.Inf > 0 || hi.Inf == 0 && (below < 0 || below == 0 && !hi.Open)
		return low && high
	}, back, skip, most), api.OK
}
