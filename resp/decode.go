package resp

import (
	"math"
	"strings"

	"cistern/api"
	"cistern/varint"
)

// longest is how many bytes a number's text has at most: those of -2^63.
const longest = 20

// decoder reads a reply's bytes from the first to the last: what it has taken is always a beginning of a reply, so that bytes that end are ErrShort, and others ErrFrame.
type decoder struct {
	bytes string
	at    int
}

// Decode reads a reply at the beginning; how many bytes it has.
func Decode(s string) (api.Reply, int, api.Errno) {
	d := decoder{bytes: s}
	r, err := d.reply(0)
	if err != api.OK {
		return api.Reply{}, 0, err
	}
	return r, d.at, api.OK
}

// reply reads a reply that stands in so many lists.
func (d *decoder) reply(depth int) (api.Reply, api.Errno) {
	if d.at == len(d.bytes) {
		return api.Reply{}, api.ErrShort
	}
	mark := d.bytes[d.at]
	d.at++
	switch mark {
	case '+':
		return d.line(api.ReplyStatus)
	case '-':
		return d.line(api.ReplyError)
	case ':':
		n, err := d.number(math.MinInt, math.MaxInt)
		return api.Reply{Kind: api.ReplyInt, N: n}, err
	case '$':
		return d.bulk()
	case '_':
		return api.Reply{Kind: api.ReplyNull}, d.end()
	case '#':
		return d.bool()
	case '*':
		return d.list(api.ReplyArray, -1, api.MaxCount, depth)
	case '%':
		return d.list(api.ReplyMap, 0, api.MaxCount/2, depth)
	case '~':
		return d.list(api.ReplySet, 0, api.MaxCount, depth)
	case '>':
		return d.list(api.ReplyPush, 0, api.MaxCount, depth)
	}
	return api.Reply{}, api.ErrFrame
}

// line reads the text of a status or an error.
func (d *decoder) line(kind int) (api.Reply, api.Errno) {
	rest := d.bytes[d.at:]
	size := strings.IndexAny(rest, crlf)
	if size < 0 {
		return api.Reply{}, api.ErrShort
	}
	d.at += size
	return worded(kind, rest[:size]), d.end()
}

func (d *decoder) bulk() (api.Reply, api.Errno) {
	size, err := d.number(-1, api.MaxElement)
	if err != api.OK {
		return api.Reply{}, err
	}
	if size < 0 {
		return api.Reply{Kind: api.ReplyNull}, api.OK
	}
	rest := d.bytes[d.at:]
	if len(rest) < size {
		return api.Reply{}, api.ErrShort
	}
	d.at += size
	return worded(api.ReplyBulk, rest[:size]), d.end()
}

func (d *decoder) bool() (api.Reply, api.Errno) {
	if d.at == len(d.bytes) {
		return api.Reply{}, api.ErrShort
	}
	r := api.Reply{Kind: api.ReplyBool}
	switch d.bytes[d.at] {
	case 't':
		r.N = 1
	case 'f':
	default:
		return api.Reply{}, api.ErrFrame
	}
	d.at++
	return r, d.end()
}

// list reads a list of the kind, whose line tells a number from least to most; -1 is a list that is null.
func (d *decoder) list(kind, least, most, depth int) (api.Reply, api.Errno) {
	if depth == deepest {
		most = -1 // a list that is null is none, and stands as deep as other replies
	}
	count, err := d.number(least, most)
	if err != api.OK {
		return api.Reply{}, err
	}
	if count < 0 {
		return api.Reply{Kind: api.ReplyNulls}, api.OK
	}
	if kind == api.ReplyMap {
		count *= 2
	}
	r := api.Reply{Kind: kind}
	for range count {
		part, err := d.reply(depth + 1)
		if err != api.OK {
			return api.Reply{}, err
		}
		r.List = append(r.List, part)
	}
	return r, api.OK
}

// number reads the rest of a line, the text of a number from least to most.
func (d *decoder) number(least, most int) (int, api.Errno) {
	if least > most {
		return 0, api.ErrFrame
	}
	text := d.bytes[d.at:]
	text = text[:min(len(text), longest+1)]
	size := strings.IndexByte(text, '\r')
	if size < 0 {
		return 0, cut(text, least, most)
	}
	n, ok := varint.Number(text[:size])
	if !ok || n < least || n > most {
		return 0, api.ErrFrame
	}
	d.at += size
	return n, d.end()
}

// cut tells what a text is that nothing has ended yet. All that a number's text begins with is a number's text itself, and one that is no farther from 0: so it is within the bounds too, as all bounds hold 0 or -1.
func cut(text string, least, most int) api.Errno {
	if text == "" || text == "-" && least < 0 {
		return api.ErrShort
	}
	if n, ok := varint.Number(text); ok && least <= n && n <= most {
		return api.ErrShort
	}
	return api.ErrFrame
}

// end takes a line's end.
func (d *decoder) end() api.Errno {
	rest := d.bytes[d.at:]
	switch {
	case strings.HasPrefix(rest, crlf):
		d.at += len(crlf)
		return api.OK
	case strings.HasPrefix(crlf, rest):
		return api.ErrShort
	}
	return api.ErrFrame
}
