package value

import "cistern/dict"

// table keeps names in a dict, each with a V.
type table[V any] struct {
	dict   *dict.Dict[V]
	weigh  func(v V) int // a V's bytes
	weight int
}

func newTable[V any](weigh func(v V) int) table[V] {
	return table[V]{dict: dict.New[V](0), weigh: weigh}
}

// weightless is the weigh of names that stand alone.
func weightless(struct{}) int { return 0 }

// give gives a name a V; whether it is new.
func (t *table[V]) give(name string, v V) bool {
	if old, ok := t.dict.Get(name); ok {
		t.weight -= t.weigh(old)
	} else {
		t.weight += len(name)
	}
	t.weight += t.weigh(v)
	return t.dict.Set(name, v)
}

// drop asks the dict to Delete names that are not there too, as that moves buckets on.
func (t *table[V]) drop(names ...string) int {
	dropped := 0
	for _, name := range names {
		old, _ := t.dict.Get(name)
		if t.dict.Delete(name) {
			t.weight -= len(name) + t.weigh(old)
			dropped++
		}
	}
	return dropped
}

func (t *table[V]) has(name string) bool {
	_, ok := t.dict.Get(name)
	return ok
}

func (t *table[V]) encoding() string                   { return "hashtable" }
func (t *table[V]) count() int                         { return t.dict.Len() }
func (t *table[V]) bytes() int                         { return t.weight }
func (t *table[V]) names() []string                    { return t.dict.Keys() }
func (t *table[V]) scan(cursor, n int) ([]string, int) { return t.dict.Scan(cursor, n) }
func (t *table[V]) knows() func(string) bool           { return t.has }

func (t *table[V]) twin() table[V] {
	return table[V]{dict: t.dict.Clone(), weigh: t.weigh, weight: t.weight}
}
