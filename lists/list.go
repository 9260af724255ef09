package lists

import (
	"cistern/api"
	"cistern/command"
	"cistern/value"
)

// list is what was found of a key that is no other thing than a list. One that is not there counts as the empty one.
type list struct{ command.Held }

// list looks at a key.
func (c *call) list(key string) (list, error) {
	held, err := c.Hold(api.KindList, key)
	return list{held}, err
}

// place is where the entry of an index stands; an index below 0 counts from the end. It need not be there.
func (l list) place(index int) int {
	if index < 0 {
		index += l.Len()
	}
	return index
}

// at is an entry, if it is there.
func (l list) at(place int) (string, bool) {
	if !l.There() {
		return "", false
	}
	entry, e := l.Value.At(place)
	return entry, e == api.OK
}

// part gives the entries from a place on up to ahead of another one.
func (l list) part(from, end int) []string {
	if !l.There() {
		return nil
	}
	entries, _ := l.Value.Range(from, end-from)
	return entries
}

// push lets entries join at an end, one after the other; a list that is not there is made of them.
func (l list) push(front bool, entries ...string) error {
	if l.There() {
		return l.changedBy(l.Value.Push(front, entries...))
	}
	return l.Call.Make(api.KindList, l.Key, func(v *value.Value) api.Errno { return v.Push(front, entries...) })
}

// pop takes entries out at an end of a list that is there.
func (l list) pop(front bool, n int) []string {
	entries, _ := l.Value.Pop(front, n)
	if len(entries) > 0 {
		l.Changed()
	}
	return entries
}

// changedBy tells the space that the list was worked on, unless the work was refused.
func (l list) changedBy(e api.Errno) error {
	if e == api.OK {
		l.Changed()
	}
	return command.Fault(e)
}
