package varint

import "cistern/api"

// Writer writes bytes one behind the other, up to a limit.
type Writer struct {
	data  []byte
	limit int
}

// NewWriter makes a Writer that has written nothing.
func NewWriter(limit int) (*Writer, api.Errno) {
	if limit < 0 || limit > api.MaxFile {
		return nil, api.ErrArg
	}
	return &Writer{limit: limit}, api.OK
}

// Put writes pieces, all or none.
func (w *Writer) Put(pieces ...string) api.Errno {
	// What is left is counted down, as the sum of all lengths might wrap round.
	room := w.limit - len(w.data)
	for _, piece := range pieces {
		if len(piece) > room {
			return api.ErrLong
		}
		room -= len(piece)
	}
	for _, piece := range pieces {
		w.data = append(w.data, piece...)
	}
	return api.OK
}

// Len writes a length's bytes.
func (w *Writer) Len(n int) api.Errno {
	way, e := PutLen(n)
	if e != api.OK {
		return e
	}
	return w.Put(way)
}

// Size tells how many bytes have been written.
func (w *Writer) Size() int { return len(w.data) }

// Text tells the bytes that have been written.
func (w *Writer) Text() string { return string(w.data) }
