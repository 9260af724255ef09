package varint

import "cistern/api"

// Reader reads bytes one behind the other.
type Reader struct {
	data string
	at   int
}

// NewReader makes a Reader at the beginning of data.
func NewReader(data string) *Reader { return &Reader{data: data} }

// Byte reads the next byte.
func (r *Reader) Byte() (int, api.Errno) {
	if r.Left() == 0 {
		return 0, api.ErrShort
	}
	b := r.data[r.at]
	r.at++
	return int(b), api.OK
}

// Take reads the next n bytes.
func (r *Reader) Take(n int) (string, api.Errno) {
	if n < 0 {
		return "", api.ErrArg
	}
	if n > r.Left() {
		return "", api.ErrShort
	}
	s := r.data[r.at : r.at+n]
	r.at += n
	return s, api.OK
}

// Len reads a length, or a special byte.
func (r *Reader) Len() (int, int, api.Errno) {
	n, size, form, e := Len(r.data[r.at:])
	r.at += size
	return n, form, e
}

// Int reads a number's form.
func (r *Reader) Int() (int, api.Errno) {
	n, size, e := Int(r.data[r.at:])
	r.at += size
	return n, e
}

// At tells how many bytes have been read.
func (r *Reader) At() int { return r.at }

// Left tells how many bytes are left.
func (r *Reader) Left() int { return len(r.data) - r.at }
