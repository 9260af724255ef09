package value

import (
	"slices"

	"cistern/api"
)

// body is what a value keeps its contents in.
type body interface {
	encoding() string
	raw() []string
	count() int // entries, members, fields; of a text: bytes
	bytes() int // of all that the model counts with its bytes
	clone() body
}

// group is the body of a set, a hash or a sorted set: names of which none stands twice, alone or with something more. Each kind has a compact body and an expanded one.
type group interface {
	body
	names() []string
	scan(cursor, n int) ([]string, int)
	// knows gives a function that tells whether a name is there. It is quick however often it is asked; getting it may be slow.
	knows() func(name string) bool
	// drop takes names out; how many were there.
	drop(names ...string) int
}

// holdSame tells whether two bodies, in whatever encodings, are of one kind and hold the same.
func holdSame(a, b body) bool {
	switch a := a.(type) {
	case text:
		if b, ok := b.(text); ok {
			return a == b
		}
	case *list:
		if b, ok := b.(*list); ok {
			return a.holdsSame(b)
		}
	case set:
		if b, ok := b.(set); ok {
			return slices.Equal(rising(a), rising(b))
		}
	case hash:
		if b, ok := b.(hash); ok {
			return slices.Equal(risingFields(a), risingFields(b))
		}
	case zset:
		if b, ok := b.(zset); ok {
			return slices.Equal(a.byRank(0, a.count(), false), b.byRank(0, b.count(), false))
		}
	}
	return false
}

// rising gives the names by rising bytes.
func rising(g group) []string {
	names := g.names()
	slices.Sort(names)
	return names
}

func isLong(s string) bool { return len(s) > api.MaxElement }

func anyLong(texts ...string) bool { return slices.ContainsFunc(texts, isLong) }

// tooMany tells whether there would be more than MaxCount names, if these joined.
func tooMany(g group, names []string) bool {
	if g.count()+len(names) <= api.MaxCount {
		return false
	}
	fresh := unlike(slices.DeleteFunc(slices.Clone(names), g.knows()))
	return g.count()+len(fresh) > api.MaxCount
}

// unlike gives what stands in a list, once each.
func unlike[T comparable](list []T) map[T]struct{} {
	all := make(map[T]struct{}, len(list))
	for _, x := range list {
		all[x] = struct{}{}
	}
	return all
}

// among gives a function that tells whether something is one of a list.
func among[T comparable](list []T) func(x T) bool {
	all := unlike(list)
	return func(x T) bool {
		_, ok := all[x]
		return ok
	}
}
