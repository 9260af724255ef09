package keyspace

import (
	"maps"
	"slices"
	"strings"

	"cistern/dict"
	"cistern/value"
)

// never is the expiry of a key that has none.
const never = -1

// room is a database.
type room struct {
	order *dict.Dict[struct{}] // it has the keys alone: to exchange what stands in a dict would move its buckets
	held  map[string]*holding
	due   map[string]int // the expiries of those keys that have one
}

// holding is what is known of a key beside its expiry.
type holding struct {
	value     *value.Value
	mark, use int
}

func newRoom() *room {
	return &room{order: dict.New[struct{}](0), held: map[string]*holding{}, due: map[string]int{}}
}

func (r *room) len() int { return len(r.held) }

// keys are the room's own texts, rising.
func (r *room) keys() []string { return slices.Sorted(maps.Keys(r.held)) }

// expiry is the time of a key, or never.
func (r *room) expiry(key string) int {
	if at, ok := r.due[key]; ok {
		return at
	}
	return never
}

// come lets a key have a value and an expiry, whether or not it is there.
func (r *room) come(key string, v *value.Value, at int) *holding {
	key = strings.Clone(key)
	h := &holding{value: v}
	r.order.Set(key, struct{}{})
	r.held[key] = h
	delete(r.due, key)
	if at != never {
		r.due[key] = at
	}
	return h
}

// leave lets a key go that is there: the dict takes a step even where it has nothing to delete.
func (r *room) leave(key string) {
	r.order.Delete(key)
	delete(r.held, key)
	delete(r.due, key)
}

// endAt lets the keys go whose time has come; how many.
func (r *room) endAt(now int) int {
	var keys []string
	for key, at := range r.due {
		if at <= now {
			keys = append(keys, key)
		}
	}
	slices.Sort(keys)
	for _, key := range keys {
		r.leave(key)
	}
	return len(keys)
}

// clone copies a room. Twins are the copies of values: keys that share a value share its copy.
func (r *room) clone(twins map[*value.Value]*value.Value) *room {
	like := newRoom()
	like.order = r.order.Clone()
	for key, h := range r.held {
		if twins[h.value] == nil {
			twins[h.value] = h.value.Clone()
		}
		like.held[key] = &holding{value: twins[h.value], mark: h.mark, use: h.use}
	}
	for key, at := range r.due {
		like.due[key] = at
	}
	return like
}

// cost is what a key costs by the model.
func (r *room) cost(key string) int {
	cost := len(key) + r.held[key].value.Size() + 64
	if r.expiry(key) != never {
		cost += 16
	}
	return cost
}

// used is what all keys cost.
func (r *room) used() int {
	n := 16 * len(r.due)
	for key, h := range r.held {
		n += len(key) + h.value.Size() + 64
	}
	return n
}
