package zsets

import (
	"cistern/api"
	"cistern/command"
	"cistern/value"
)

const (
	few      = 16 // how often a member may be sought in a compact value: to seek it goes through all of it, so that more members are sought in a map of all that is made once
	setScore = 1  // the score of each member of a set, where sets are taken for sorted sets
)

// zset is what was found of a key that is no other thing than a sorted set, or, where a command takes these too, a set. One that is not there counts as the empty one.
type zset struct{ command.Held }

// zset looks at a key that must be a sorted set, if it is there.
func (c *call) zset(key string) (zset, error) {
	held, err := c.Hold(api.KindZset, key)
	return zset{held}, err
}

// zsetOrSet looks at a key that may be a set too.
func (c *call) zsetOrSet(key string) (zset, error) {
	z := zset{command.Held{Call: &c.Call, Key: key, Value: c.Look(key)}}
	if z.isSet() {
		return z, nil
	}
	return z, command.MustBe(api.KindZset, z.Value)
}

func (z zset) isSet() bool { return z.There() && z.Value.Kind() == api.KindSet }

// isLarge tells whether it is kept so that a member is found in few steps.
func (z zset) isLarge() bool {
	return z.Value.Encoding() == "skiplist" || z.Value.Encoding() == "hashtable"
}

// all gives all members, in order; they are the caller's own memory.
func (z zset) all() []api.Scored {
	if !z.isSet() {
		return z.part(0, z.Len(), false)
	}
	names, _ := z.Value.Members()
	members := make([]api.Scored, len(names))
	for i, name := range names {
		members[i] = api.Scored{Member: name, Score: setScore}
	}
	return members
}

// part gives n members of a sorted set from a rank on, or as many as there are; back: counted and told from the greatest down.
func (z zset) part(rank, n int, back bool) []api.Scored {
	if !z.There() {
		return nil
	}
	members, _ := z.Value.ByRank(rank, n, back)
	return members
}

// at gives the members of some ranks of a sorted set.
func (z zset) at(ranks ...int) []api.Scored {
	if len(ranks) > few || !z.There() || !z.isLarge() {
		return command.At(z.all(), ranks...)
	}
	var members []api.Scored
	for _, rank := range ranks {
		members = append(members, z.part(rank, 1, false)...)
	}
	return members
}

// score gives a member's score, and whether the member is there.
func (z zset) score(member string) (int, bool) {
	if !z.There() {
		return 0, false
	}
	if z.isSet() {
		found, _ := z.Value.Has(member)
		return setScore, found
	}
	score, found, _ := z.Value.Score(member)
	return score, found
}

// finder gives a function that tells what score does; it is going to be asked so many times.
func (z zset) finder(times int) func(member string) (int, bool) {
	if times <= few || !z.There() || z.isLarge() {
		return z.score
	}
	scores := make(map[string]int, z.Len())
	for _, m := range z.all() {
		scores[m.Member] = m.Score
	}
	return func(member string) (int, bool) {
		score, found := scores[member]
		return score, found
	}
}

// scored gives those of some members that are there, with their scores.
func (z zset) scored(members ...string) []api.Scored {
	find := z.finder(len(members))
	list := make([]api.Scored, 0, len(members))
	for _, member := range members {
		if score, found := find(member); found {
			list = append(list, api.Scored{Member: member, Score: score})
		}
	}
	return list
}

// put gives members scores; a sorted set that is not there is made of them. Only if one of them comes, or gets another score, the space is told.
func (z zset) put(another bool, members ...api.Scored) error {
	if len(members) == 0 {
		return nil
	}
	if !z.There() {
		return makeZset(z.Call, z.Key, members...)
	}
	_, e := z.Value.ZAdd(members...)
	if e == api.OK && another {
		z.Changed()
	}
	return command.Fault(e)
}

// drop takes members out; how many were there.
func (z zset) drop(members ...string) int {
	if !z.There() || len(members) == 0 {
		return 0
	}
	gone, _ := z.Value.ZDrop(members...)
	if gone > 0 {
		z.Changed()
	}
	return gone
}

// makeZset lets a key, whatever it was, be a new sorted set of members, of which there is one at least.
func makeZset(c *command.Call, key string, members ...api.Scored) error {
	return c.Make(api.KindZset, key, func(v *value.Value) api.Errno {
		_, e := v.ZAdd(members...)
		return e
	})
}
