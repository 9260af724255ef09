package value

import (
	"slices"
	"strings"

	"cistern/api"
	"cistern/intset"
	"cistern/listpack"
	"cistern/quicklist"
)

// Load makes a value of the pieces in which it was kept.
func Load(kind int, encoding string, pieces []string, th api.Thresholds) (*Value, api.Errno) {
	v, err := New(kind, th)
	if err != api.OK {
		return nil, err
	}
	if !v.load(encoding, pieces, th) {
		return nil, api.ErrValue
	}
	return v, api.OK
}

// load lets an empty value hold what the pieces say; false, if they are none of this encoding.
func (v *Value) load(encoding string, pieces []string, th api.Thresholds) bool {
	switch b := v.body.(type) {
	case text:
		return v.loadText(encoding, pieces)
	case *list:
		return b.load(encoding, pieces, th)
	case *intSet:
		return v.loadSet(b, encoding, pieces)
	case *packHash:
		return v.loadHash(b, encoding, pieces)
	case *packZset:
		return v.loadZset(b, encoding, pieces)
	}
	return false
}

func (v *Value) loadText(encoding string, pieces []string) bool {
	if len(pieces) != 1 || isLong(pieces[0]) || text(pieces[0]).encoding() != encoding {
		return false
	}
	v.body = text(strings.Clone(pieces[0]))
	return true
}

func (l *list) load(encoding string, nodes []string, th api.Thresholds) bool {
	sound := encoding == "listpack" && len(nodes) <= 1 || encoding == "quicklist" && len(nodes) > 1
	if !sound {
		return false
	}
	entries, err := quicklist.Load(th.ListEntries, th.ListBytes, nodes)
	if err != api.OK {
		return false
	}
	l.entries = entries
	for _, node := range nodes {
		part, _ := listpack.Walk(node, false)
		l.weight += weigh(part...)
	}
	return true
}

func (v *Value) loadSet(empty *intSet, encoding string, pieces []string) bool {
	switch encoding {
	case "intset":
		return len(pieces) == 1 && v.loadInts(empty, pieces[0])
	case "listpack":
		members, ok := onePack(pieces, 1)
		if !ok {
			return false
		}
		if empty.room.holds(len(members), members...) {
			v.body = newPackSet(empty.room, members...)
		} else {
			v.join(members...)
		}
		return true
	case "hashtable":
		if !areElements(pieces, 1) || !doRise(pieces) {
			return false
		}
		v.body = newTableSet(pieces...)
		return true
	}
	return false
}

// loadInts keeps an intset as it is, as it may be wider than its numbers need.
func (v *Value) loadInts(empty *intSet, ints string) bool {
	numbers, err := intset.All(ints)
	if err != api.OK {
		return false
	}
	members := digits(numbers)
	if len(members) > empty.most {
		v.join(members...)
		return true
	}
	empty.ints = strings.Clone(ints)
	empty.size = len(members)
	empty.weight = weigh(members...)
	return true
}

func (v *Value) loadHash(empty *packHash, encoding string, pieces []string) bool {
	switch encoding {
	case "listpack":
		entries, ok := onePack(pieces, 2)
		if !ok {
			return false
		}
		if empty.room.holds(len(entries)/2, entries...) {
			empty.hold(entries...)
		} else {
			v.joinFields(fieldsOf(entries)...)
		}
		return true
	case "hashtable":
		if !areElements(pieces, 2) || !doRise(namesIn(pieces, 2)) {
			return false
		}
		v.body = newTableHash(fieldsOf(pieces)...)
		return true
	}
	return false
}

func (v *Value) loadZset(empty *packZset, encoding string, pieces []string) bool {
	switch encoding {
	case "listpack":
		entries, ok := onePack(pieces, 2)
		if !ok {
			return false
		}
		members, ok := readInOrder(entries)
		if !ok {
			return false
		}
		if empty.room.holds(len(members), membersOf(members)...) {
			empty.hold(entries...)
		} else {
			v.joinScored(members...)
		}
		return true
	case "skiplist":
		if !areElements(pieces, 2) || !areUnlike(namesIn(pieces, 2)) {
			return false
		}
		members, ok := readInOrder(pieces)
		if !ok {
			return false
		}
		v.body = newBoardZset(members...)
		return true
	}
	return false
}

// onePack gives the entries of the one piece, if it is a listpack of names that do not stand twice, each with so many entries.
func onePack(pieces []string, width int) ([]string, bool) {
	if len(pieces) != 1 {
		return nil, false
	}
	entries, err := listpack.Walk(pieces[0], false)
	if err != api.OK || !areElements(entries, width) || !areUnlike(namesIn(entries, width)) {
		return nil, false
	}
	return entries, true
}

// areElements tells whether texts may be the elements of one value, so many of them for each name.
func areElements(texts []string, width int) bool {
	return !anyLong(texts...) && len(texts)%width == 0 && len(texts)/width <= api.MaxCount
}

func areUnlike(names []string) bool { return len(unlike(names)) == len(names) }

// doRise tells whether each name is less than the next one.
func doRise(names []string) bool { return slices.IsSorted(names) && areUnlike(names) }

// readInOrder gives the members that stand in turns with the digits of their scores, if they stand in order.
func readInOrder(entries []string) ([]api.Scored, bool) {
	members, ok := readScored(entries)
	return members, ok && slices.IsSortedFunc(members, compare)
}
