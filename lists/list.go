package lists

import (
	"cistern/api"
	"cistern/command"
	"cistern/value"
)

// list is what was found of a key that is no other thing than a list. One that is not there counts as the empty one.
type list struct {
	call  *call
	key   string
	value *value.Value // nil, if the key is not there
}

// list looks at a key.
func (c *call) list(key string) (list, error) {
	v, err := c.LookFor(api.KindList, key)
	return list{c, key, v}, err
}

func (l list) there() bool { return l.value != nil }

func (l list) len() int {
	if !l.there() {
		return 0
	}
	return l.value.Len()
}

// place is where the entry of an index stands; an index below 0 counts from the end. It need not be there.
func (l list) place(index int) int {
	if index < 0 {
		index += l.len()
	}
	return index
}

// at is an entry, if it is there.
func (l list) at(place int) (string, bool) {
	if !l.there() {
		return "", false
	}
	entry, e := l.value.At(place)
	return entry, e == api.OK
}

// part gives the entries from a place on up to ahead of another one.
func (l list) part(from, end int) []string {
	if !l.there() {
		return nil
	}
	entries, _ := l.value.Range(from, end-from)
	return entries
}

// push lets entries join at an end, one after the other; a list that is not there is made of them.
func (l list) push(front bool, entries ...string) error {
	if l.there() {
		return l.changedBy(l.value.Push(front, entries...))
	}
	v := l.call.New(api.KindList)
	e := v.Push(front, entries...)
	if e == api.OK {
		e = l.call.Space.Put(l.call.DB, l.key, v)
	}
	return command.Fault(e)
}

// pop takes entries out at an end of a list that is there.
func (l list) pop(front bool, n int) []string {
	entries, _ := l.value.Pop(front, n)
	if len(entries) > 0 {
		l.changed()
	}
	return entries
}

// changed tells the space that the list was worked on.
func (l list) changed() { l.call.Space.Changed(l.call.DB, l.key) }

// changedBy is the same, unless the work was refused.
func (l list) changedBy(e api.Errno) error {
	if e == api.OK {
		l.changed()
	}
	return command.Fault(e)
}
