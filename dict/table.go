package dict

import (
	"cmp"
	"slices"
	"strings"
)

// least is the size of the smallest table that may hold keys.
const least = 4

// entry is a key with its value.
type entry[V any] struct {
	key   string
	value V
}

// table is one of the two tables of a dict.
type table[V any] struct {
	buckets [][]entry[V] // a power of two of them, or none; each rising by keys, as Scan tells them
	count   int          // keys of all buckets
}

func newTable[V any](size int) table[V] {
	return table[V]{buckets: make([][]entry[V], size)}
}

func (t *table[V]) size() int { return len(t.buckets) }

// bucket hands a bucket on without its spare room, so that whoever appends to it can't write into the table.
func (t *table[V]) bucket(i int) []entry[V] {
	b := t.buckets[i]
	return b[:len(b):len(b)]
}

// place finds the bucket and the place in it where a key stands, or would stand if the table has buckets.
func (t *table[V]) place(hash int, key string) (int, int, bool) {
	if t.size() == 0 {
		return 0, 0, false
	}
	i := hash & (t.size() - 1)
	k, ok := slices.BinarySearchFunc(t.buckets[i], key, func(e entry[V], key string) int {
		return cmp.Compare(e.key, key)
	})
	return i, k, ok
}

// find is a key's entry, or nil.
func (t *table[V]) find(hash int, key string) *entry[V] {
	i, k, ok := t.place(hash, key)
	if !ok {
		return nil
	}
	return &t.buckets[i][k]
}

// add puts in an entry whose key the table doesn't have; it has buckets.
func (t *table[V]) add(hash int, e entry[V]) {
	i, k, _ := t.place(hash, e.key)
	t.buckets[i] = slices.Insert(t.buckets[i], k, e)
	t.count++
}

// drop takes a key out; whether it was there.
func (t *table[V]) drop(hash int, key string) bool {
	i, k, ok := t.place(hash, key)
	if !ok {
		return false
	}
	t.buckets[i] = slices.Delete(t.buckets[i], k, k+1)
	if len(t.buckets[i]) == 0 {
		t.buckets[i] = nil
	}
	t.count--
	return true
}

// take empties a bucket and hands on what it had.
func (t *table[V]) take(i int) []entry[V] {
	b := t.bucket(i)
	t.buckets[i] = nil
	t.count -= len(b)
	return b
}

// meet appends the keys of a bucket, each as its caller's own.
func (t *table[V]) meet(keys []string, i int) []string {
	for _, e := range t.bucket(i) {
		keys = append(keys, strings.Clone(e.key))
	}
	return keys
}

func (t *table[V]) clone() table[V] {
	twin := newTable[V](t.size())
	twin.count = t.count
	for i := range t.buckets {
		twin.buckets[i] = slices.Clone(t.bucket(i))
	}
	return twin
}
