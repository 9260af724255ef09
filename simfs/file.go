package simfs

import (
	"slices"
	"strings"
)

// file is bytes, of which the first ones are safe. They stay in the pieces in which they came, so that a long file is never laid down anew to grow.
type file struct {
	number     int // from 1 on, in the order of creation
	pieces     []string
	size, safe int
}

// lay lays bytes behind those that are there.
func (x *file) lay(data string) {
	if data == "" {
		return
	}
	x.pieces = append(x.pieces, strings.Clone(data))
	x.size += len(data)
}

// sync makes all bytes safe.
func (x *file) sync() { x.safe = x.size }

// first are the first n bytes.
func (x *file) first(n int) string {
	var out strings.Builder
	out.Grow(n)
	for _, piece := range x.pieces {
		out.WriteString(piece[:min(len(piece), n-out.Len())])
	}
	return out.String()
}

// keep leaves the safe bytes and so many behind them, all of them safe; the pieces are new where bytes are lost, so that these are let go.
func (x *file) keep(more int) {
	if left := x.safe + more; left < x.size {
		x.pieces, x.size = []string{x.first(left)}, left
	}
	x.sync()
}

// twin is a file's copy, the same one each time it is asked for.
func twin(x *file, twins map[*file]*file) *file {
	if twins[x] == nil {
		like := *x
		like.pieces = slices.Clone(x.pieces)
		twins[x] = &like
	}
	return twins[x]
}
