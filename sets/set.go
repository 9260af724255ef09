package sets

import (
	"slices"

	"cistern/api"
	"cistern/command"
	"cistern/value"
)

// few is how often a member may be sought in a compact set: to seek it goes through the whole set, so that more members are sought in a list of all that is laid down once.
const few = 16

// set is what was found of a key that is no other thing than a set. One that is not there counts as the empty one.
type set struct {
	call  *call
	key   string
	value *value.Value // nil, if the key is not there
}

// set looks at a key.
func (c *call) set(key string) (set, error) {
	v, err := c.LookFor(api.KindSet, key)
	return set{c, key, v}, err
}

// sets looks at keys, in their order, up to the first that is of the wrong kind.
func (c *call) sets(keys ...string) ([]set, error) {
	list := make([]set, len(keys))
	for i, key := range keys {
		var err error
		if list[i], err = c.set(key); err != nil {
			return nil, err
		}
	}
	return list, nil
}

func (s set) there() bool { return s.value != nil }

func (s set) len() int {
	if !s.there() {
		return 0
	}
	return s.value.Len()
}

// members gives all members, rising; they are the caller's own memory.
func (s set) members() []string {
	if !s.there() {
		return nil
	}
	members, _ := s.value.Members()
	return members
}

// has gives a function that tells whether a member is in the set; it is going to be asked so many times.
func (s set) has(times int) func(member string) bool {
	if !s.there() {
		return func(string) bool { return false }
	}
	if times <= few || s.value.Encoding() == "hashtable" {
		return func(member string) bool {
			found, _ := s.value.Has(member)
			return found
		}
	}
	members := s.members()
	return func(member string) bool {
		_, found := slices.BinarySearch(members, member)
		return found
	}
}

// add lets members join; a set that is not there is made of them. How many are new.
func (s set) add(members ...string) (int, error) {
	if !s.there() {
		return s.call.makeSet(s.key, members...)
	}
	fresh, e := s.value.Add(members...)
	if fresh > 0 {
		s.changed()
	}
	return fresh, command.Fault(e)
}

// drop takes members out; how many were there.
func (s set) drop(members ...string) int {
	if !s.there() {
		return 0
	}
	gone, _ := s.value.Drop(members...)
	if gone > 0 {
		s.changed()
	}
	return gone
}

// changed tells the space that the set was worked on.
func (s set) changed() { s.call.Space.Changed(s.call.DB, s.key) }

// makeSet lets a key, whatever it was, be a new set of members, of which there is one at least; how many it has.
func (c *call) makeSet(key string, members ...string) (int, error) {
	v := c.New(api.KindSet)
	fresh, e := v.Add(members...)
	if e == api.OK {
		e = c.Space.Put(c.DB, key, v)
	}
	return fresh, command.Fault(e)
}
