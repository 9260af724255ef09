package dict

import "math/bits"

func (d *Dict[V]) moves() bool { return d.second.size() > 0 }

// find is a key's entry in whichever table has it, or nil.
func (d *Dict[V]) find(hash int, key string) *entry[V] {
	if e := d.first.find(hash, key); e != nil {
		return e
	}
	return d.second.find(hash, key)
}

// begin begins a move to a second table of a size.
func (d *Dict[V]) begin(size int) {
	d.second = newTable[V](size)
	d.index = 0
	d.endIfDone()
}

// endIfDone ends a move that has nothing left to move.
func (d *Dict[V]) endIfDone() {
	if d.moves() && d.first.count == 0 {
		d.first, d.second = d.second, table[V]{}
	}
}

// step moves the next bucket that is not empty. A move that goes on has one: it ends with the first table's last key.
func (d *Dict[V]) step() {
	if !d.moves() {
		return
	}
	for len(d.first.bucket(d.index)) == 0 {
		d.index++
	}
	for _, e := range d.first.take(d.index) {
		d.second.add(Hash(d.seed, e.key), e)
	}
	d.index++
	d.endIfDone()
}

// makeRoom makes the first table, or begins a move to a larger one, where a new key needs it.
func (d *Dict[V]) makeRoom() {
	size := d.first.size()
	if size == 0 {
		d.first = newTable[V](least)
	} else if !d.moves() && d.first.count >= size {
		d.begin(2 * size)
	}
}

// giveRoomBack begins a move to a smaller table, where few keys are left.
func (d *Dict[V]) giveRoomBack() {
	size := d.first.size()
	if d.moves() || size <= least || d.first.count > size/8 {
		return
	}
	smaller := least
	for smaller < d.first.count {
		smaller *= 2
	}
	d.begin(smaller)
}

// visit appends the keys that are met at a cursor, and tells the cursor behind it.
func (d *Dict[V]) visit(keys []string, cursor int) ([]string, int) {
	if !d.moves() {
		return d.first.meet(keys, cursor&(d.first.size()-1)), next(cursor, d.first.size())
	}
	small, large := &d.first, &d.second
	if small.size() > large.size() {
		small, large = large, small
	}
	keys = small.meet(keys, cursor&(small.size()-1))
	// What the small table has in one bucket the large one has in several: they are met in one visit, so that the cursor
	// behind it means the same in both.
	for {
		keys = large.meet(keys, cursor&(large.size()-1))
		cursor = next(cursor, large.size())
		if cursor&(large.size()-small.size()) == 0 {
			return keys, cursor
		}
	}
}

// next is the cursor behind one in a table of a size: one more, counted from the highest bit down. So the buckets that a
// bucket is split into, or joined with, follow one another at all sizes, and no change of the size skips one.
func next(cursor, size int) int {
	unused := bits.LeadingZeros64(uint64(size - 1))
	turned := bits.Reverse64(uint64(cursor)) >> unused
	turned = (turned + 1) & uint64(size-1)
	return int(bits.Reverse64(turned << unused))
}
