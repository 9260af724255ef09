package codec

import (
	"strings"

	"cistern/api"
	"cistern/varint"
)

// nodeByte stands ahead of each node of a list.
const nodeByte = 2

// layout is how the bytes of a type lie.
type layout struct {
	typ      int
	kind     int
	encoding string // empty: any of the kind
	width    int    // texts of each of those that are counted ahead of them; 0: there is one text, and no count
	blobs    bool   // the texts are intsets or listpacks
	nodes    bool   // each text has nodeByte ahead of it
}

var layouts = [...]layout{
	{typ: 0, kind: api.KindString},
	{typ: 2, kind: api.KindSet, encoding: "hashtable", width: 1},
	{typ: 3, kind: api.KindZset, encoding: "skiplist", width: 2},
	{typ: 4, kind: api.KindHash, encoding: "hashtable", width: 2},
	{typ: 11, kind: api.KindSet, encoding: "intset", blobs: true},
	{typ: 16, kind: api.KindHash, encoding: "listpack", blobs: true},
	{typ: 17, kind: api.KindZset, encoding: "listpack", blobs: true},
	{typ: 18, kind: api.KindList, width: 1, blobs: true, nodes: true},
	{typ: 20, kind: api.KindSet, encoding: "listpack", blobs: true},
}

// layoutOf is the layout of a type.
func layoutOf(typ int) (layout, error) {
	for _, l := range layouts {
		if l.typ == typ {
			return l, nil
		}
	}
	return layout{}, met("the type", api.ErrOpcode)
}

// layoutFor is the layout in which values of a kind and an encoding are written.
func layoutFor(kind int, encoding string) (layout, error) {
	for _, l := range layouts {
		if l.kind == kind && (l.encoding == encoding || l.encoding == "") {
			return l, nil
		}
	}
	return layout{}, met("the encoding", api.ErrValue)
}

// write lays the pieces of a value down.
func (l layout) write(compress bool, pieces ...string) (string, error) {
	if l.blobs && anyAbove(MaxBlob, pieces...) {
		return "", met("a blob", api.ErrLong)
	}
	var out strings.Builder
	if l.width > 0 {
		putLength(&out, len(pieces)/l.width)
	}
	for _, piece := range pieces {
		if l.nodes {
			out.WriteByte(nodeByte)
		}
		putText(&out, piece, compress)
	}
	return out.String(), nil
}

// read reads a value, and hands on each of its texts as it stands there.
func (l layout) read(r *varint.Reader, hand func(part)) error {
	many, err := l.readCount(r)
	if err != nil {
		return within{"how many", err}
	}
	for i := range many {
		p, err := l.readOne(r)
		if err != nil {
			return within{"text " + varint.Digits(i), err}
		}
		hand(p)
	}
	return nil
}

// readCount reads how many texts there are.
func (l layout) readCount(r *varint.Reader) (int, error) {
	if l.width == 0 {
		return 1, nil
	}
	n, err := readLength(r)
	if err != nil {
		return 0, err
	}
	if n > api.MaxCount {
		return 0, met("a count", api.ErrLong)
	}
	return n * l.width, nil
}

// readOne reads a text with what stands ahead of it.
func (l layout) readOne(r *varint.Reader) (part, error) {
	if l.nodes {
		b, e := r.Byte()
		if e == api.OK && b != nodeByte {
			e = api.ErrForm
		}
		if e != api.OK {
			return part{}, met("a node's first byte", e)
		}
	}
	return readPart(r)
}
