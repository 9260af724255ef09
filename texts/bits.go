package texts

import (
	"errors"
	"math/bits"

	"cistern/api"
	"cistern/command"
	"cistern/resp"
	"cistern/varint"
)

// byteBits is how many bits a byte has; of these the highest is the first one.
const byteBits = 8

var (
	errBitOffset = errors.New("ERR bit offset is not an integer or out of range")
	errBit       = errors.New("ERR bit is not an integer or out of range")
	errBitSought = errors.New("ERR The bit argument must be 1 or 0.")
)

func bitOffset(word string) (int, error) {
	at, ok := varint.Number(word)
	if !ok || at < 0 || at >= byteBits*api.MaxElement {
		return 0, errBitOffset
	}
	return at, nil
}

func bitOf(word string) (int, bool) {
	switch word {
	case "0":
		return 0, true
	case "1":
		return 1, true
	}
	return 0, false
}

// bitIn is a bit as a byte that has it alone.
func bitIn(at int) byte { return 1 << (byteBits - 1 - at%byteBits) }

// hasBit tells whether a bit is 1: behind the end none is.
func hasBit(text string, at int) bool {
	return at/byteBits < len(text) && text[at/byteBits]&bitIn(at) != 0
}

// bitReply is a bit, told as a number.
func bitReply(is bool) api.Reply {
	if is {
		return resp.Int(1)
	}
	return resp.Int(0)
}

func getBit(c *call) (api.Reply, error) {
	at, err := bitOffset(c.Args[1])
	if err != nil {
		return api.Reply{}, err
	}
	h, err := c.lookText(c.Args[0])
	return bitReply(hasBit(h.text(), at)), err
}

func setBit(c *call) (api.Reply, error) {
	at, err := bitOffset(c.Args[1])
	if err != nil {
		return api.Reply{}, err
	}
	bit, ok := bitOf(c.Args[2])
	if !ok {
		return api.Reply{}, errBit
	}
	h, err := c.lookText(c.Args[0])
	if err != nil {
		return api.Reply{}, err
	}
	was := h.text()
	text := filled(was, at/byteBits+1)
	text[at/byteBits] &^= bitIn(at)
	if bit == 1 {
		text[at/byteBits] |= bitIn(at)
	}
	return bitReply(hasBit(was, at)), c.workOn(h, string(text))
}

// bitsOf are the bits of a text at a stretch's places: the first one, and the one behind the last.
func (s stretch) bitsOf(text string) (int, int) {
	if s.bits {
		return command.Places(s.from, s.to, byteBits*len(text))
	}
	from, end := command.Places(s.from, s.to, len(text))
	return byteBits * from, byteBits * end
}

// inByte are those bits of a byte, at its place in a text, that lie from a bit on and ahead of another one.
func inByte(place, from, end int) byte {
	all := byte(0xff)
	ahead := max(from-byteBits*place, 0)
	behind := max(byteBits*(place+1)-end, 0)
	return all >> ahead & (all << behind)
}

func bitCount(c *call) (api.Reply, error) {
	if len(c.Args) == 2 {
		// Here, but not in BITPOS, a place from which asks for one up to which.
		return api.Reply{}, command.Fault(api.ErrArg)
	}
	s, h, err := c.stretchOf(c.Args[1:])
	if err != nil {
		return api.Reply{}, err
	}
	text := h.text()
	from, end := s.bitsOf(text)
	return resp.Int(ones(text, from, end)), nil
}

// ones is how many bits are 1, from a bit on and ahead of another one.
func ones(text string, from, end int) int {
	n := 0
	for i := from / byteBits; i*byteBits < end; i++ {
		n += bits.OnesCount8(text[i] & inByte(i, from, end))
	}
	return n
}

func bitPos(c *call) (api.Reply, error) {
	bit, ok := bitOf(c.Args[1])
	if !ok {
		return api.Reply{}, errBitSought
	}
	s, h, err := c.stretchOf(c.Args[2:])
	if err != nil {
		return api.Reply{}, err
	}
	if !h.there() {
		return resp.Int(-bit), nil
	}
	text := h.text()
	from, end := s.bitsOf(text)
	at := first(text, bit, from, end)
	if hasEnd := len(c.Args) > 3; at < 0 && bit == 0 && !hasEnd && from < end {
		// Without an end the string counts as one with zero bytes behind it.
		at = byteBits * len(text)
	}
	return resp.Int(at), nil
}

// first is the first bit of a value, from a bit on and ahead of another one; -1, if there is none.
func first(text string, bit, from, end int) int {
	for i := from / byteBits; i*byteBits < end; i++ {
		b := text[i]
		if bit == 0 {
			b = ^b
		}
		if b &= inByte(i, from, end); b != 0 {
			return i*byteBits + bits.LeadingZeros8(b)
		}
	}
	return -1
}
