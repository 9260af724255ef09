package quicklist

import (
	"fmt"
	"math"
	"reflect"
	"slices"
	"testing"

	"cistern/api"
	"cistern/listpack"
)

// lister is what a list and its model answer alike.
type lister interface {
	Nodes() []string
	Len() int
	At(i int) (string, bool)
	Set(i int, s string) api.Errno
	Push(s string, front bool) api.Errno
	Pop(front bool) (string, bool)
	Insert(i int, s string) api.Errno
	Delete(i, n int) int
	Range(from, to int) []string
	Find(s string, from, step int) (int, bool)
}

// model is a list by the chapter's words alone: its nodes are plain lists of elements.
type model struct {
	entries, bytes int
	nodes          [][]string
}

func (m *model) all() []string { return slices.Concat(m.nodes...) }

func (m *model) large(s string) bool { return len(s) > m.bytes }

func (m *model) room(node []string) bool {
	return len(node) < m.entries && !slices.ContainsFunc(node, m.large)
}

// where gives the node of element i, and its number in that.
func (m *model) where(i int) (int, int) {
	for n, node := range m.nodes {
		if i < len(node) {
			return n, i
		}
		i -= len(node)
	}
	panic("no such element")
}

// put lets nodes stand in the place of node n; of these only those that are not empty.
func (m *model) put(n int, nodes ...[]string) {
	var standing [][]string
	for _, node := range nodes {
		if len(node) > 0 {
			standing = append(standing, slices.Clone(node))
		}
	}
	m.nodes = slices.Replace(m.nodes, n, n+1, standing...)
}

func (m *model) Nodes() []string {
	var packs []string
	for _, node := range m.nodes {
		pack, err := listpack.New(node...)
		if err != api.OK {
			panic(err)
		}
		packs = append(packs, pack)
	}
	return packs
}

func (m *model) Len() int {
	count := 0
	for _, node := range m.nodes {
		count += len(node)
	}
	return count
}

func (m *model) At(i int) (string, bool) {
	if i < 0 || i >= m.Len() {
		return "", false
	}
	n, k := m.where(i)
	return m.nodes[n][k], true
}

func (m *model) Set(i int, s string) api.Errno {
	old, ok := m.At(i)
	if !ok {
		return api.ErrArg
	}
	if len(s) > 1<<19 {
		return api.ErrLong
	}
	n, k := m.where(i)
	node := m.nodes[n]
	if m.large(s) || m.large(old) {
		m.put(n, node[:k], []string{s}, node[k+1:])
	} else {
		m.put(n, slices.Concat(node[:k], []string{s}, node[k+1:]))
	}
	return api.OK
}

func (m *model) Push(s string, front bool) api.Errno {
	if len(s) > 1<<19 {
		return api.ErrLong
	}
	if m.Len() >= 1<<20 {
		return api.ErrFull
	}
	last := len(m.nodes) - 1
	switch {
	case front && !m.large(s) && last >= 0 && m.room(m.nodes[0]):
		m.put(0, append([]string{s}, m.nodes[0]...))
	case front:
		m.nodes = append([][]string{{s}}, m.nodes...)
	case !m.large(s) && last >= 0 && m.room(m.nodes[last]):
		m.put(last, append(slices.Clone(m.nodes[last]), s))
	default:
		m.nodes = append(m.nodes, []string{s})
	}
	return api.OK
}

func (m *model) Pop(front bool) (string, bool) {
	i := 0
	if !front {
		i = m.Len() - 1
	}
	s, ok := m.At(i)
	m.Delete(i, 1)
	return s, ok
}

func (m *model) Insert(i int, s string) api.Errno {
	if i < 0 || i > m.Len() {
		return api.ErrArg
	}
	if i == m.Len() || len(s) > 1<<19 || m.Len() >= 1<<20 {
		return m.Push(s, false)
	}
	n, k := m.where(i)
	node := m.nodes[n]
	switch {
	case m.large(s):
		m.put(n, node[:k], []string{s}, node[k:])
	case m.room(node):
		m.put(n, slices.Insert(slices.Clone(node), k, s))
	case k == 0 && n > 0 && m.room(m.nodes[n-1]):
		m.put(n-1, append(slices.Clone(m.nodes[n-1]), s))
	case k == 0:
		m.put(n, []string{s}, node)
	default:
		m.put(n, append(slices.Clone(node[:k]), s), node[k:])
	}
	return api.OK
}

// Delete takes one element after the other.
func (m *model) Delete(i, n int) int {
	taken := 0
	for ; i >= 0 && i < m.Len() && taken < n; taken++ {
		at, k := m.where(i)
		m.put(at, slices.Delete(slices.Clone(m.nodes[at]), k, k+1))
	}
	return taken
}

func (m *model) Range(from, to int) []string {
	var list []string
	for i, s := range m.all() {
		if i >= from && i <= to {
			list = append(list, s)
		}
	}
	return list
}

func (m *model) Find(s string, from, step int) (int, bool) {
	all := m.all()
	for p := from; step != 0 && p >= 0 && p < len(all); p += step {
		if all[p] == s {
			return p, true
		}
		if step > math.MaxInt-len(all) || step < math.MinInt+len(all) {
			break
		}
	}
	return 0, false
}

// call is one of the calls with its arguments, and what it answers.
type call struct {
	name string
	of   func(l lister) any
}

type answer struct {
	text string
	n    int
	ok   bool
	err  api.Errno
}

func length() call {
	return call{"Len()", func(l lister) any { return l.Len() }}
}

func at(i int) call {
	return call{fmt.Sprintf("At(%d)", i), func(l lister) any {
		s, ok := l.At(i)
		return answer{text: s, ok: ok}
	}}
}

func set(i int, s string) call {
	return call{fmt.Sprintf("Set(%d, %.20q)", i, s), func(l lister) any { return l.Set(i, s) }}
}

func push(s string, front bool) call {
	return call{fmt.Sprintf("Push(%.20q, %v)", s, front), func(l lister) any { return l.Push(s, front) }}
}

func pop(front bool) call {
	return call{fmt.Sprintf("Pop(%v)", front), func(l lister) any {
		s, ok := l.Pop(front)
		return answer{text: s, ok: ok}
	}}
}

func insert(i int, s string) call {
	return call{fmt.Sprintf("Insert(%d, %.20q)", i, s), func(l lister) any { return l.Insert(i, s) }}
}

func remove(i, n int) call {
	return call{fmt.Sprintf("Delete(%d, %d)", i, n), func(l lister) any { return l.Delete(i, n) }}
}

func between(from, to int) call {
	return call{fmt.Sprintf("Range(%d, %d)", from, to), func(l lister) any { return append([]string{}, l.Range(from, to)...) }}
}

func find(s string, from, step int) call {
	return call{fmt.Sprintf("Find(%.20q, %d, %d)", s, from, step), func(l lister) any {
		i, ok := l.Find(s, from, step)
		return answer{n: i, ok: ok}
	}}
}

// trial is a list beside its model.
type trial struct {
	t *testing.T
	l *List
	m *model
}

// begin loads a list of these nodes.
func begin(t *testing.T, entries, bytes int, nodes ...[]string) trial {
	t.Helper()
	m := &model{entries: entries, bytes: bytes, nodes: slices.Clone(nodes)}
	l, err := Load(entries, bytes, m.Nodes())
	if err != api.OK {
		t.Fatalf("Load(%d, %d, %.60q) = %d", entries, bytes, nodes, err)
	}
	return trial{t, l, m}
}

// do asks the calls of the list, of a clone of it, of a list loaded from its nodes, and of the model, one by one: all must answer alike, be alike behind it, and not see one another.
func (r trial) do(calls ...call) {
	r.t.Helper()
	for _, c := range calls {
		before := r.l.Nodes()
		clone, still := r.l.Clone(), r.l.Clone()
		loaded, err := Load(r.m.entries, r.m.bytes, before)
		if err != api.OK {
			r.t.Fatalf("Load of the nodes ahead of %s: %d", c.name, err)
		}
		want := c.of(r.m)
		after := r.m.Nodes()
		r.same(c, "a clone", clone, c.of(clone), want, after)
		r.same(c, "the list that was cloned", r.l, want, want, before)
		r.same(c, "the list", r.l, c.of(r.l), want, after)
		r.same(c, "a clone from ahead", still, want, want, before)
		r.same(c, "a loaded list", loaded, c.of(loaded), want, after)
	}
}

func (r trial) same(c call, who string, l *List, got, want any, nodes []string) {
	r.t.Helper()
	if !reflect.DeepEqual(got, want) {
		r.t.Fatalf("%s of %s = %.80v; want %.80v; nodes %s", c.name, who, got, want, shown(nodes))
	}
	r.alike(c.name+" of "+who, l, nodes)
}

// alike holds a list's nodes against those that are wanted, by Q8, and its rows against what they must be.
func (r trial) alike(what string, l *List, nodes []string) {
	r.t.Helper()
	got := l.Nodes()
	if !slices.Equal(got, nodes) {
		r.t.Fatalf("%s: nodes %s; want %s", what, shown(got), shown(nodes))
	}
	if err := areList(r.m.entries, r.m.bytes, got); err != "" {
		r.t.Fatalf("%s: %s: %s", what, err, shown(got))
	}
	if err := soundRows(l); err != "" {
		r.t.Fatalf("%s: %s", what, err)
	}
}

// areList tells what is wrong with nodes that should be a list's, by the section 'Words'.
func areList(entries, bytes int, nodes []string) string {
	count := 0
	for i, pack := range nodes {
		values, err := listpack.Walk(pack, false)
		if err != api.OK || len(values) < 1 || len(values) > entries {
			return fmt.Sprintf("node %d: %d elements, %d", i, len(values), err)
		}
		if len(values) > 1 && slices.ContainsFunc(values, func(s string) bool { return len(s) > bytes }) {
			return fmt.Sprintf("node %d: a large element among %d", i, len(values))
		}
		count += len(values)
	}
	if count > 1<<20 {
		return fmt.Sprintf("%d elements", count)
	}
	return ""
}

// soundRows tells what is wrong with a list's rows.
func soundRows(l *List) string {
	all := 0
	for i, r := range l.rows {
		count := 0
		for _, n := range r.nodes {
			count += n.count
		}
		all += count
		if r.count != count {
			return fmt.Sprintf("row %d says %d elements, has %d", i, r.count, count)
		}
		if len(r.nodes) > mostNodes || len(r.nodes) == 0 && len(l.rows) > 1 {
			return fmt.Sprintf("row %d of %d has %d nodes", i, len(l.rows), len(r.nodes))
		}
		if i > 0 && len(r.nodes)+len(l.rows[i-1].nodes) <= mostNodes/2 {
			return fmt.Sprintf("rows %d and %d are short", i-1, i)
		}
	}
	if len(l.rows) == 0 || l.count != all {
		return fmt.Sprintf("%d rows, %d elements of %d", len(l.rows), l.count, all)
	}
	return ""
}

// shown is a list's nodes as the chapter writes them.
func shown(nodes []string) string {
	text := ""
	for _, pack := range nodes[:min(len(nodes), 40)] {
		values, _ := listpack.Walk(pack, false)
		text += fmt.Sprintf("%.20s ", values[:min(len(values), 20)])
	}
	return text
}

// mix is a source of numbers that look mixed, and are the same in each run.
type mix uint64

func (m *mix) below(n int) int {
	x := uint64(*m)
	x ^= x << 13
	x ^= x >> 7
	x ^= x << 17
	*m = mix(x)
	return int(x >> 1 % uint64(n))
}

// element is a short text, a number's text, an empty one, or one about as long as the bound.
func (m *mix) element(bytes int) string {
	switch m.below(8) {
	case 0:
		return ""
	case 1:
		return fmt.Sprint(m.below(1<<20) - 1<<19)
	case 2:
		return string(make([]byte, bytes))
	case 3:
		return string(make([]byte, bytes+1+m.below(3)))
	}
	return string(rune('a' + m.below(4)))
}

// call is any of the calls, with arguments that mostly lie within the list.
func (m *mix) call(count, bytes int) call {
	i := m.below(count+3) - 1
	s, front := m.element(bytes), m.below(2) == 0
	switch m.below(14) {
	case 0:
		return length()
	case 1:
		return at(i)
	case 2, 3:
		return set(i, s)
	case 4, 5:
		return push(s, front)
	case 6:
		return pop(front)
	case 7, 8, 9:
		return insert(i, s)
	case 10:
		return remove(i, m.below(6)-1)
	case 11:
		return remove(i, 1)
	case 12:
		return between(i-m.below(3), m.below(count+3)-1)
	}
	return find(s, i, m.below(9)-4)
}
