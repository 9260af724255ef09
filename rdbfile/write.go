package rdbfile

import (
	"strings"

	"cistern/api"
	"cistern/codec"
	"cistern/crc"
	"cistern/varint"
)

// The head of a file.
const (
	letters = "REDIS"
	version = "0011"
)

// The first bytes of parts; that of an item without an expiry is its type.
const (
	auxByte    = 0xfa
	resizeByte = 0xfb
	expiryByte = 0xfc
	selectByte = 0xfe
	endByte    = 0xff
)

// never is the expiry of an item that has none.
const never = -1

// write lays an image down that may be.
func write(i api.Image, compress bool) string {
	var out strings.Builder
	out.WriteString(letters + version)
	for _, pair := range i.Aux {
		out.WriteByte(auxByte)
		out.WriteString(codec.PutText(pair.Name, compress))
		out.WriteString(codec.PutText(pair.Value, compress))
	}
	for _, space := range i.Spaces {
		writeSpace(&out, space, compress)
	}
	out.WriteByte(endByte)
	out.WriteString(crc.Text(crc.Sum(out.String())))
	return out.String()
}

func writeSpace(out *strings.Builder, space api.Space, compress bool) {
	out.WriteByte(selectByte)
	writeLength(out, space.Index)
	out.WriteByte(resizeByte)
	writeLength(out, len(space.Items))
	writeLength(out, expiring(space.Items...))
	for _, item := range space.Items {
		if item.Expiry != never {
			out.WriteByte(expiryByte)
			out.WriteString(eightOf(item.Expiry))
		}
		out.WriteByte(byte(item.Type))
		out.WriteString(codec.PutText(item.Key, compress))
		out.WriteString(item.Body)
	}
}

// writeLength lays a number down that layer 2 never refuses.
func writeLength(out *strings.Builder, n int) {
	way, _ := varint.PutLen(n)
	out.WriteString(way)
}

// expiring is how many items have an expiry.
func expiring(items ...api.Item) int {
	n := 0
	for _, item := range items {
		if item.Expiry != never {
			n++
		}
	}
	return n
}

// A time has its eight bytes as a sum has them, the lowest first.
const eight = 8

func eightOf(at int) string { return crc.Text(uint64(at)) }

// timeOf is the time that eight bytes tell, which may be too great for an int.
func timeOf(bytes string) uint64 {
	at, _ := crc.Read(bytes)
	return at
}
