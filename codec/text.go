package codec

import (
	"strings"

	"cistern/api"
	"cistern/lzf"
	"cistern/varint"
)

// A packed text has packedByte ahead of it, of which varint.Len tells packedForm.
const (
	packedByte = 0xc3
	packedForm = packedByte - 0xc0 + 1
)

// A text is packed only if it has more bytes than this.
const mostUnpacked = 20

// mostDigits is how many bytes the text of a number that has a form has at most.
const mostDigits = len("-2147483648")

// putText lays a text down as a file has it.
func putText(out *strings.Builder, s string, compress bool) {
	if form, ok := numberForm(s); ok {
		out.WriteString(form)
		return
	}
	if compress && len(s) > mostUnpacked {
		if p, ok := lzf.Pack(s); ok {
			out.WriteByte(packedByte)
			putLength(out, len(p))
			putLength(out, len(s))
			out.WriteString(p)
			return
		}
	}
	putLength(out, len(s))
	out.WriteString(s)
}

// numberForm is the form of the number whose text it is. No longer text is looked at, as it may be very long.
func numberForm(s string) (string, bool) {
	if len(s) > mostDigits {
		return "", false
	}
	n, ok := varint.Number(s)
	if !ok {
		return "", false
	}
	return varint.PutInt(n)
}

// putLength lays down how many bytes or texts there are, which layer 2 never refuses.
func putLength(out *strings.Builder, n int) {
	way, _ := varint.PutLen(n)
	out.WriteString(way)
}

// part is a text as it stands in bytes.
type part struct {
	bytes  string // the text, or what it is packed into
	packed bool
	size   int // how many bytes a packed text tells to have
}

// readText reads a text.
func readText(r *varint.Reader) (string, error) {
	p, err := readPart(r)
	if err != nil {
		return "", err
	}
	return p.text()
}

// readPart reads a text, but does not unpack it.
func readPart(r *varint.Reader) (part, error) {
	// A form that is longer than the number needs is ErrForm too: then Len tells it as a special byte.
	n, e := r.Int()
	if e == api.OK {
		return part{bytes: varint.Digits(n)}, nil
	}
	if e != api.ErrForm {
		return part{}, met("a text", e)
	}
	n, form, e := r.Len()
	switch {
	case e != api.OK:
		return part{}, met("a text's length", e)
	case form == packedForm:
		return readPacked(r)
	case form != 0:
		return part{}, met("a number", api.ErrForm)
	}
	bytes, err := readBytes(r, n, n)
	return part{bytes: bytes}, err
}

// readPacked reads a packed text behind its first byte.
func readPacked(r *varint.Reader) (part, error) {
	held, err := readLength(r)
	if err != nil {
		return part{}, within{"a packed text", err}
	}
	size, err := readLength(r)
	if err != nil {
		return part{}, within{"a packed text", err}
	}
	bytes, err := readBytes(r, held, size)
	return part{bytes: bytes, packed: true, size: size}, err
}

// readLength reads a length for which no special byte may stand.
func readLength(r *varint.Reader) (int, error) {
	n, form, e := r.Len()
	if e == api.OK && form != 0 {
		e = api.ErrForm
	}
	return n, met("a length", e)
}

// readBytes reads the bytes of a text which has so many there, and stands for so many.
func readBytes(r *varint.Reader, held, size int) (string, error) {
	if held > MaxBlob || size > MaxBlob {
		return "", met("a text's length", api.ErrLong)
	}
	bytes, e := r.Take(held)
	return bytes, met("a text's bytes", e)
}

// text is the text that stands there.
func (p part) text() (string, error) {
	if !p.packed {
		return p.bytes, nil
	}
	if p.size > api.MaxElement {
		return "", met("a packed text", api.ErrLong)
	}
	s, e := lzf.Unpack(p.bytes, p.size)
	if e == api.ErrArg {
		e = api.ErrSize
	}
	return s, met("a packed text", e)
}

// textsOf are the texts of parts, up to the first one that is at fault.
func textsOf(parts ...part) ([]string, error) {
	texts := make([]string, 0, len(parts))
	for i, p := range parts {
		s, err := p.text()
		if err != nil {
			return nil, within{"text " + varint.Digits(i), err}
		}
		texts = append(texts, s)
	}
	return texts, nil
}

// anyAbove tells whether one of the texts has more than so many bytes.
func anyAbove(most int, texts ...string) bool {
	for _, s := range texts {
		if len(s) > most {
			return true
		}
	}
	return false
}
