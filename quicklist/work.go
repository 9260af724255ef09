package quicklist

import "cistern/api"

// mayJoin tells whether there is room for another element.
func (l *List) mayJoin(s string) api.Errno {
	if len(s) > api.MaxElement {
		return api.ErrLong
	}
	if l.count >= api.MaxCount {
		return api.ErrFull
	}
	return api.OK
}

// insert puts a text ahead of the element at a place.
func (l *List) insert(p place, s string) {
	n := l.node(p)
	before, ok := l.beside(p, true)
	switch {
	case l.isLarge(s):
		l.replace(p, 1, n.ahead(p.k), l.alone(s), n.from(p.k))
	case l.hasRoom(n):
		l.replace(p, 1, n.with(p.k, s))
	case p.k == 0 && ok && l.hasRoom(l.node(before)):
		m := l.node(before)
		l.replace(before, 1, m.with(m.count, s))
	case p.k == 0:
		l.replace(p, 0, l.alone(s))
	default:
		l.replace(p, 1, n.ahead(p.k).with(p.k, s), n.from(p.k))
	}
}

// deleteInRow takes elements out from a place on, up to so many: of its node, and of the nodes of its row behind that which go whole; how many.
func (l *List) deleteInRow(p place, most int) int {
	nodes := l.rows[p.row].nodes[p.node:]
	first := nodes[0]
	cut := min(most, first.count-p.k)
	taken, many := cut, 1
	for many < len(nodes) && nodes[many].count <= most-taken {
		taken += nodes[many].count
		many++
	}
	l.replace(p, many, first.without(p.k, cut))
	return taken
}

// seek goes on from an element by a step that is no longer than the list, until an element is s, or there is none.
func (l *List) seek(s string, i, step int) (int, bool) {
	p, back := l.find(i), step < 0
	k, stride := p.k, step // both counted from that end of a node at which it is entered
	if back {
		k, stride = l.node(p).count-1-p.k, -step
	}
	for n := range l.walk(p, back) {
		if k < n.count {
			values := n.values(back)
			for ; k < n.count; k += stride {
				if values[k] == s {
					return i, true
				}
				i += step
			}
		}
		k -= n.count
	}
	return 0, false
}
