package codec

import (
	"slices"

	"cistern/api"
	"cistern/listpack"
	"cistern/value"
	"cistern/varint"
)

// mostThreshold is the greatest threshold, but that of numbers in an intset.
const mostThreshold = 4096

func greatest() api.Thresholds {
	return api.Thresholds{
		ListEntries: mostThreshold, ListBytes: mostThreshold,
		SetInts: api.MaxCount, SetEntries: mostThreshold, SetBytes: mostThreshold,
		ZsetEntries: mostThreshold, ZsetBytes: mostThreshold,
		HashEntries: mostThreshold, HashBytes: mostThreshold,
	}
}

// isBare tells whether a value has no elements, but should have some.
func isBare(v *value.Value) bool { return v.Kind() != api.KindString && v.Len() == 0 }

// decode is the value of a type and bytes, with thresholds that may be.
func decode(typ int, body string, th api.Thresholds) (*value.Value, error) {
	l, err := layoutOf(typ)
	if err != nil {
		return nil, err
	}
	texts, err := l.readWhole(body)
	if err != nil {
		return nil, err
	}
	if !l.blobs && anyAbove(api.MaxElement, texts...) {
		return nil, met("a text", api.ErrLong)
	}
	v, err := l.load(th, texts...)
	if err != nil {
		return nil, err
	}
	if isBare(v) {
		return nil, met("no elements", api.ErrValue)
	}
	return v, nil
}

// readWhole gives the texts of a value of which bytes are all. None is unpacked until the last one has been read, as the errors of the form come first.
func (l layout) readWhole(body string) ([]string, error) {
	var parts []part
	r := varint.NewReader(body)
	err := l.read(r, func(p part) { parts = append(parts, p) })
	if err != nil {
		return nil, err
	}
	if r.Left() > 0 {
		return nil, met("behind the value", api.ErrValue)
	}
	return textsOf(parts...)
}

// load makes a value of its pieces.
func (l layout) load(th api.Thresholds, pieces ...string) (*value.Value, error) {
	switch l.kind {
	case api.KindString:
		return loadText(th, pieces[0])
	case api.KindList:
		return loadList(th, pieces...)
	}
	v, e := value.Load(l.kind, l.encoding, pieces, th)
	return v, loaded(e)
}

// loaded is the error of pieces that layer 10 has looked at, whatever it has found.
func loaded(e api.Errno) error {
	if e == api.OK {
		return nil
	}
	return met("the pieces", api.ErrValue)
}

func loadText(th api.Thresholds, s string) (*value.Value, error) {
	v, e := value.New(api.KindString, th)
	if e == api.OK {
		e = v.SetText(s)
	}
	return v, loaded(e)
}

// loadList takes nodes as they are, if the thresholds let it. Else, if they could be some list's, their elements come to stand as they would if they were pushed one by one.
func loadList(th api.Thresholds, nodes ...string) (*value.Value, error) {
	v, e := loadNodes(th, nodes...)
	if e == api.OK {
		return v, nil
	}
	wide := th
	wide.ListEntries, wide.ListBytes = mostThreshold, mostThreshold
	v, e = loadNodes(wide, nodes...)
	if e != api.OK {
		return nil, loaded(e)
	}
	elements, _ := v.Range(0, v.Len())
	v, e = loadNodes(th, nodesOf(th, elements...)...)
	return v, loaded(e)
}

func loadNodes(th api.Thresholds, nodes ...string) (*value.Value, api.Errno) {
	encoding := "quicklist"
	if len(nodes) <= 1 {
		encoding = "listpack"
	}
	return value.Load(api.KindList, encoding, nodes, th)
}

// nodesOf gives the nodes in which elements come to stand that are pushed at the back of a new list. They are laid down at once: layer 7 takes elements one by one, and goes through all of a node for each.
func nodesOf(th api.Thresholds, elements ...string) []string {
	var nodes []string
	lay := func(some ...string) {
		for node := range slices.Chunk(some, th.ListEntries) {
			pack, _ := listpack.New(node...)
			nodes = append(nodes, pack)
		}
	}
	begin := 0
	for i, s := range elements {
		if len(s) > th.ListBytes {
			lay(elements[begin:i]...)
			lay(s)
			begin = i + 1
		}
	}
	lay(elements[begin:]...)
	return nodes
}
