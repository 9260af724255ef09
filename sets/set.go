package sets

import (
	"slices"

	"cistern/api"
	"cistern/command"
	"cistern/value"
)

// few is how often a member may be sought in a compact set: to seek it goes through the whole set, so that more members are sought in a list of all that is laid down once.
const few = 16

// set is what was found of a key that is no other thing than a set. One that is not there counts as the empty one.
type set struct{ command.Held }

// set looks at a key.
func (c *call) set(key string) (set, error) {
	held, err := c.Hold(api.KindSet, key)
	return set{held}, err
}

// sets looks at keys, in their order, up to the first that is of the wrong kind.
func (c *call) sets(keys ...string) ([]set, error) {
	list := make([]set, len(keys))
	for i, key := range keys {
		var err error
		if list[i], err = c.set(key); err != nil {
			return nil, err
		}
	}
	return list, nil
}

// members gives all members, rising; they are the caller's own memory.
func (s set) members() []string {
	if !s.There() {
		return nil
	}
	members, _ := s.Value.Members()
	return members
}

// has gives a function that tells whether a member is in the set; it is going to be asked so many times.
func (s set) has(times int) func(member string) bool {
	if !s.There() {
		return func(string) bool { return false }
	}
	if times <= few || s.Value.Encoding() == "hashtable" {
		return func(member string) bool {
			found, _ := s.Value.Has(member)
			return found
		}
	}
	members := s.members()
	return func(member string) bool {
		_, found := slices.BinarySearch(members, member)
		return found
	}
}

// add lets members join; a set that is not there is made of them. How many are new.
func (s set) add(members ...string) (int, error) {
	if !s.There() {
		return makeSet(s.Call, s.Key, members...)
	}
	fresh, e := s.Value.Add(members...)
	if fresh > 0 {
		s.Changed()
	}
	return fresh, command.Fault(e)
}

// drop takes members out; how many were there.
func (s set) drop(members ...string) int {
	if !s.There() {
		return 0
	}
	gone, _ := s.Value.Drop(members...)
	if gone > 0 {
		s.Changed()
	}
	return gone
}

// makeSet lets a key, whatever it was, be a new set of members, of which there is one at least; how many it has.
func makeSet(c *command.Call, key string, members ...string) (fresh int, err error) {
	err = c.Make(api.KindSet, key, func(v *value.Value) (e api.Errno) {
		fresh, e = v.Add(members...)
		return e
	})
	return fresh, err
}
