package value

import (
	"slices"

	"cistern/api"
)

// set is the body of a set.
type set interface {
	group
	has(member string) bool
	// add lets members join up to the first one that this encoding has no room for: how many it went through, and how many of these are new.
	add(members ...string) (int, int)
}

// packSet is a set in a listpack, in the order in which its members joined.
type packSet struct{ packed }

func newPackSet(r room, members ...string) *packSet {
	s := &packSet{newPacked(r, 1, 1)}
	s.hold(members...)
	return s
}

func (s *packSet) clone() body            { return &packSet{s.twin()} }
func (s *packSet) has(member string) bool { return s.place(member) >= 0 }

func (s *packSet) add(members ...string) (int, int) {
	all, done := s.entries(), 0
	for _, member := range members {
		if !slices.Contains(all, member) {
			if !s.room.holds(len(all)+1, member) {
				break
			}
			all = append(all, member)
		}
		done++
	}
	fresh := len(all) - s.size
	if fresh > 0 {
		s.hold(all...)
	}
	return done, fresh
}

// tableSet is a set in a dict.
type tableSet struct{ table[struct{}] }

func newTableSet(members ...string) *tableSet {
	s := &tableSet{newTable(weightless)}
	s.add(members...)
	return s
}

func (s *tableSet) raw() []string { return s.names() }
func (s *tableSet) clone() body   { return &tableSet{s.twin()} }

func (s *tableSet) add(members ...string) (int, int) {
	fresh := 0
	for _, member := range members {
		if s.give(member, struct{}{}) {
			fresh++
		}
	}
	return len(members), fresh
}

func (v *Value) asSet() (set, api.Errno) {
	if s, ok := v.body.(set); ok {
		return s, api.OK
	}
	return nil, api.ErrKind
}

// Add lets members join a set; how many are new.
func (v *Value) Add(members ...string) (int, api.Errno) {
	s, err := v.asSet()
	if err != api.OK {
		return 0, err
	}
	if anyLong(members...) || tooMany(s, members) {
		return 0, api.ErrLong
	}
	return v.join(members...), api.OK
}

// join lets members join, in whatever encoding there is room for them; how many are new.
func (v *Value) join(members ...string) int {
	s, _ := v.asSet()
	done, fresh := s.add(members...)
	if done < len(members) {
		v.grow()
		fresh += v.join(members[done:]...)
	}
	return fresh
}

// Drop takes members out of a set; how many were there.
func (v *Value) Drop(members ...string) (int, api.Errno) {
	s, err := v.asSet()
	if err != api.OK {
		return 0, err
	}
	return s.drop(members...), api.OK
}

// Has tells whether a member is in a set.
func (v *Value) Has(member string) (bool, api.Errno) {
	s, err := v.asSet()
	if err != api.OK {
		return false, err
	}
	return s.has(member), api.OK
}

// Members gives all members of a set, rising.
func (v *Value) Members() ([]string, api.Errno) {
	s, err := v.asSet()
	if err != api.OK {
		return nil, err
	}
	return rising(s), api.OK
}
