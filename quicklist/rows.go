package quicklist

import (
	"iter"
	"slices"
	"strings"
)

// mostNodes is how many nodes a row has at most: few enough that they are moved quickly, and so many that even the longest list has few rows.
const mostNodes = 1024

// row is a run of nodes that follow one another. Nodes stand in rows, so that one that comes or goes moves few others, and the node of an element is found without going through all.
type row struct {
	nodes []node
	count int // elements of all its nodes
}

func newRow(nodes ...node) row {
	return row{nodes: nodes, count: elements(nodes...)}
}

// elements is how many elements nodes have together.
func elements(nodes ...node) int {
	count := 0
	for _, n := range nodes {
		count += n.count
	}
	return count
}

func (r row) clone() row {
	nodes := slices.Clone(r.nodes)
	for i := range nodes {
		nodes[i].pack = strings.Clone(nodes[i].pack)
	}
	return row{nodes: nodes, count: r.count}
}

// place is where an element stands: a row, a node of it, and the number of the element in that.
type place struct {
	row, node, k int
}

func (l *List) has(i int) bool { return i >= 0 && i < l.count }

// find gives the place of an element that is there.
func (l *List) find(i int) place {
	p := place{k: i}
	for p.k >= l.rows[p.row].count {
		p.k -= l.rows[p.row].count
		p.row++
	}
	nodes := l.rows[p.row].nodes
	for p.k >= nodes[p.node].count {
		p.k -= nodes[p.node].count
		p.node++
	}
	return p
}

func (l *List) node(p place) node { return l.rows[p.row].nodes[p.node] }

// gap is where a new node stands ahead of all others, or behind them.
func (l *List) gap(front bool) place {
	if front {
		return place{}
	}
	last := len(l.rows) - 1
	return place{row: last, node: len(l.rows[last].nodes)}
}

// end is where a new element stands in the first node, or in the last one; false, if there is no node.
func (l *List) end(front bool) (place, bool) {
	p := l.gap(front)
	if l.count == 0 {
		return place{}, false
	}
	if !front {
		p.node--
		p.k = l.node(p).count
	}
	return p, true
}

// beside is the node behind another one, or, with back, the one ahead of it; false, if there is none.
func (l *List) beside(p place, back bool) (place, bool) {
	switch {
	case back && p.node > 0:
		return place{row: p.row, node: p.node - 1}, true
	case back && p.row > 0:
		return place{row: p.row - 1, node: len(l.rows[p.row-1].nodes) - 1}, true
	case !back && p.node+1 < len(l.rows[p.row].nodes):
		return place{row: p.row, node: p.node + 1}, true
	case !back && p.row+1 < len(l.rows):
		return place{row: p.row + 1}, true
	}
	return place{}, false
}

// walk yields the nodes from one on to the last one, or, with back, to the first.
func (l *List) walk(from place, back bool) iter.Seq[node] {
	return func(yield func(node) bool) {
		for p, ok := from, true; ok; p, ok = l.beside(p, back) {
			if !yield(l.node(p)) {
				return
			}
		}
	}
}

// replace lets nodes stand in the place of so many nodes of a row; those without elements do not stand.
func (l *List) replace(p place, many int, nodes ...node) {
	r := &l.rows[p.row]
	more := elements(nodes...) - elements(r.nodes[p.node:p.node+many]...)
	r.nodes = slices.Replace(r.nodes, p.node, p.node+many, slices.DeleteFunc(nodes, node.isEmpty)...)
	r.count += more
	l.count += more
	l.level(p.row)
}

// level cuts a row that has become too long, and joins one that has become short with those beside it.
func (l *List) level(i int) {
	nodes := l.rows[i].nodes
	if half := len(nodes) / 2; len(nodes) > mostNodes {
		// The first row must not grow into the second one, which begins where it ends.
		l.rows = slices.Replace(l.rows, i, i+1, newRow(nodes[:half:half]...), newRow(nodes[half:]...))
		return
	}
	l.join(i)
	if i > 0 {
		l.join(i - 1)
	}
}

// join makes one row of a row and the next one, if one of them is empty, or both are short: so short that the new one is not cut again soon.
func (l *List) join(i int) {
	if i+1 == len(l.rows) {
		return
	}
	first, second := l.rows[i].nodes, l.rows[i+1].nodes
	if len(first) == 0 || len(second) == 0 || len(first)+len(second) <= mostNodes/2 {
		l.rows = slices.Replace(l.rows, i, i+2, newRow(slices.Concat(first, second)...))
	}
}
