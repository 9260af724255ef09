package sets

import (
	"cmp"
	"maps"
	"slices"

	"cistern/api"
	"cistern/command"
	"cistern/resp"
)

// together gives the members, rising, of a set of several keys: what a function makes of the sets under them.
func (c *call) together(of func(sets ...set) []string, keys ...string) ([]string, error) {
	sets, err := c.sets(keys...)
	if err != nil {
		return nil, err
	}
	return of(sets...), nil
}

// telling gives the command that tells a set of several keys.
func telling(of func(sets ...set) []string) func(c *call) (api.Reply, error) {
	return func(c *call) (api.Reply, error) {
		members, err := c.together(of, c.Args...)
		if err != nil {
			return api.Reply{}, err
		}
		return command.Listed(api.ReplySet, members...), nil
	}
}

// storing gives the command that makes its first key a set of the several others; that key goes, if there are no members.
func storing(of func(sets ...set) []string) func(c *call) (api.Reply, error) {
	return func(c *call) (api.Reply, error) {
		dest := c.Args[0]
		members, err := c.together(of, c.Args[1:]...)
		if err != nil {
			return api.Reply{}, err
		}
		if len(members) == 0 {
			c.Space.Drop(c.DB, dest)
			return resp.Int(0), nil
		}
		n, err := makeSet(&c.Call, dest, members...)
		return resp.Int(n), err
	}
}

// countCommon counts what SINTER would tell.
func (c *call) countCommon() (api.Reply, error) {
	keys, behind, err := command.CountedKeys(c.Args)
	if err != nil {
		return api.Reply{}, err
	}
	most, err := command.Limit(behind...)
	if err != nil {
		return api.Reply{}, err
	}
	members, err := c.together(intersection, keys...)
	if err != nil {
		return api.Reply{}, err
	}
	n := len(members)
	if most > 0 {
		n = min(n, most)
	}
	return resp.Int(n), nil
}

// intersection gives what all sets have. It begins with the smallest one, so that no more members are sought than all sets have together.
func intersection(sets ...set) []string {
	smallest := slices.MinFunc(sets, func(a, b set) int { return cmp.Compare(a.Len(), b.Len()) })
	members := smallest.members()
	for _, s := range once(sets...) {
		if s.Key == smallest.Key {
			continue
		}
		has := s.has(len(members))
		members = slices.DeleteFunc(members, func(member string) bool { return !has(member) })
	}
	return members
}

// union gives what any of the sets has.
func union(sets ...set) []string {
	all := map[string]struct{}{}
	for _, s := range once(sets...) {
		for _, member := range s.members() {
			all[member] = struct{}{}
		}
	}
	return slices.Sorted(maps.Keys(all))
}

// difference gives what the first set has and none of the others.
func difference(sets ...set) []string {
	others := union(sets[1:]...)
	return slices.DeleteFunc(sets[0].members(), func(member string) bool {
		_, found := slices.BinarySearch(others, member)
		return found
	})
}

// once leaves out the sets under keys that came already.
func once(sets ...set) []set {
	return command.Once(func(s set) string { return s.Key }, sets...)
}
