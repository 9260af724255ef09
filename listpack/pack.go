package listpack

import (
	"iter"
	"math/bits"

	"cistern/api"
)

const (
	sizeBytes  = 4
	countBytes = 2
	headSize   = sizeBytes + countBytes
	end        = 0xff
	least      = headSize + 1 // bytes of a listpack without entries
	manyCount  = 1<<(8*countBytes) - 1
)

// A back length's bytes: groups of bits, with more added to each but the first.
const (
	groupBits = 7
	more      = 1 << groupBits
)

// pack is a listpack that has been read: its entries' bytes, without its head and its end. The zero value has no entries.
type pack struct {
	body  string
	count int
}

// entry is one of a pack: its item, where its bytes begin in the body, and how many its head and data have there.
type entry struct {
	item
	begin, span int
}

// read looks at all of a text, as no call may take one for a listpack that is none.
func read(p string) (l pack, err api.Errno) {
	defer func() {
		if recover() != nil {
			l, err = pack{}, api.ErrListpack
		}
	}()
	must(len(p) >= least && len(p) <= api.MaxFile && p[len(p)-1] == end)
	must(lowFirst(p[:sizeBytes]) == len(p))
	l.body = p[headSize : len(p)-1]
	for place, e := range l.forward() {
		l.mustBeOneForm(e)
		l.count = place + 1
	}
	must(l.count <= api.MaxCount && lowFirst(p[sizeBytes:headSize]) == min(l.count, manyCount))
	return l, api.OK
}

// must gives a pack up that is damaged.
func must(sound bool) {
	if !sound {
		panic(api.ErrListpack)
	}
}

// mustBeOneForm gives a pack up that has an entry in another form than its item's one.
func (l pack) mustBeOneForm(e entry) {
	must(e.size() == e.span && len(e.text) <= api.MaxElement)
	_, isNumber := numberOf(e.text)
	must(!isNumber)
	groups := backSize(e.span)
	for i, b := range []byte(cut(l.body, e.begin+e.span, groups)) {
		must(b == backByte(e.span, groups, i))
	}
}

// forward yields the entries with their places. A pack that has not been looked at yet may be given up.
func (l pack) forward() iter.Seq2[int, entry] {
	return func(yield func(int, entry) bool) {
		place, at := 0, 0
		for at < len(l.body) {
			it, span := readItem(l.body[at:])
			if !yield(place, entry{item: it, begin: at, span: span}) {
				return
			}
			place++
			at += span + backSize(span)
		}
	}
}

// backward yields them from the last one on, by the back lengths.
func (l pack) backward() iter.Seq2[int, entry] {
	return func(yield func(int, entry) bool) {
		at := len(l.body)
		for place := l.count - 1; place >= 0; place-- {
			at = l.beginBefore(at)
			if !yield(place, l.entryAt(at)) {
				return
			}
		}
	}
}

func (l pack) entryAt(begin int) entry {
	it, span := readItem(l.body[begin:])
	return entry{item: it, begin: begin, span: span}
}

// beginBefore is where the entry begins whose back length ends at a place.
func (l pack) beginBefore(at int) int {
	size := 0
	for shift := 0; ; shift += groupBits {
		at--
		b := l.body[at]
		size |= int(b%more) << shift
		if b < more {
			return at - size
		}
	}
}

// begin is where an entry's bytes begin, sought from the nearer end; of the place behind all it is the end.
func (l pack) begin(i int) int {
	if i == l.count {
		return len(l.body)
	}
	entries := l.forward()
	if i > l.count/2 {
		entries = l.backward()
	}
	begin := 0
	for place, e := range entries {
		if place == i {
			begin = e.begin
			break
		}
	}
	return begin
}

// splice gives the listpack in which values stand in the place of n entries from entry i on.
func (l pack) splice(i, n int, values ...string) (string, api.Errno) {
	from, to := l.begin(i), l.begin(i+n)
	count := l.count - n + len(values)
	size := least + from + len(l.body) - to
	for _, value := range values {
		if len(value) > api.MaxElement {
			return "", api.ErrLong
		}
		size += Size(value)
	}
	if count > api.MaxCount || size > api.MaxFile {
		return "", api.ErrLong
	}
	m := newMaker(size, count)
	m.out.WriteString(l.body[:from])
	for _, value := range values {
		m.put(itemOf(value))
	}
	m.out.WriteString(l.body[to:])
	m.out.WriteByte(end)
	return m.out.String(), api.OK
}

// backSize is how many bytes the back length of head and data has.
func backSize(size int) int {
	return (bits.Len(uint(size)) + groupBits - 1) / groupBits
}

// backByte is byte i of a back length of so many groups.
func backByte(size, groups, i int) byte {
	b := byte(size>>(groupBits*(groups-1-i))) % more
	if i > 0 {
		b += more
	}
	return b
}
