// Package crc is layer 1: CRC-64 by the polynomial of Jones: see shared/doc/01-crc.md.
package crc

// A sum is a polynomial over two elements, reflected: its highest bit stands
// for x^0, its lowest for x^63. So halving it multiplies by x, and a carry out
// of the lowest bit is taken back by the rest of the polynomial of Jones.
const (
	jones = 0x95AC9329AC4BC9B5
	one   = 1 << 63
	eight = one >> 8
)

// Sum is a text's sum.
func Sum(s string) uint64 { return Update(0, s) }

// Update goes on with a sum.
func Update(c uint64, s string) uint64 {
	sums := byteSums()
	for i := range len(s) {
		c = c>>8 ^ sums[byte(c)^s[i]]
	}
	return c
}

// Join is the sum of two texts, by their sums and the second one's length.
func Join(a, b uint64, n int) uint64 {
	// Each byte of value 0 multiplies by x^8. Squares of it, one for each
	// binary digit, reach any n without going through the bytes.
	for power := uint64(eight); n > 0; n >>= 1 {
		if n&1 == 1 {
			a = multiply(a, power)
		}
		power = multiply(power, power)
	}
	return a ^ b
}

// Text is a sum as bytes.
func Text(c uint64) string {
	var b [8]byte
	for i := range b {
		b[i] = byte(c >> (8 * i))
	}
	return string(b[:])
}

// Read reads such bytes.
func Read(s string) (uint64, bool) {
	if len(s) != 8 {
		return 0, false
	}
	var c uint64
	for i := range len(s) {
		c |= uint64(s[i]) << (8 * i)
	}
	return c, true
}

// byteSums gives the sum of each byte. The sum of bytes that are xored is
// their sums xored, so only those of single bits are worked out step by step:
// the array is cheap enough to be made by each call that needs it.
func byteSums() [256]uint64 {
	var sums [256]uint64
	c := uint64(1)
	for bit := 128; bit > 0; bit /= 2 {
		c = halve(c)
		for above := 0; above < len(sums); above += 2 * bit {
			sums[above+bit] = sums[above] ^ c
		}
	}
	return sums
}

// halve is one of the eight steps that a byte takes.
func halve(c uint64) uint64 {
	h := c >> 1
	if c&1 == 1 {
		h ^= jones
	}
	return h
}

// multiply multiplies two sums as polynomials.
func multiply(a, b uint64) uint64 {
	var product uint64
	for ; a != 0; a <<= 1 {
		if a&one != 0 {
			product ^= b
		}
		b = halve(b)
	}
	return product
}
