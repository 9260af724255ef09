package resp

import (
	"strings"

	"cistern/api"
	"cistern/varint"
)

// deepest is how deep lists stand in one another at most.
const deepest = 32

// The forms of the protocol.
const (
	proto2 = 2
	proto3 = 3
)

// encoder writes replies in one form of the protocol.
type encoder struct {
	out   strings.Builder
	proto int
}

// Encode gives a reply's bytes.
func Encode(r api.Reply, proto int) (string, api.Errno) {
	if proto != proto2 && proto != proto3 {
		return "", api.ErrArg
	}
	e := encoder{proto: proto}
	if !e.reply(r, 0) {
		return "", api.ErrArg
	}
	return e.out.String(), api.OK
}

// reply writes a reply that stands in so many lists; false, if it can't be written.
func (e *encoder) reply(r api.Reply, depth int) bool {
	switch r.Kind {
	case api.ReplyStatus:
		e.line("+", onOneLine(r.Text))
	case api.ReplyError:
		e.line("-", onOneLine(r.Text))
	case api.ReplyInt:
		e.line(":", varint.Digits(r.N))
	case api.ReplyBulk:
		e.line("$", varint.Digits(len(r.Text)))
		e.line(r.Text)
	case api.ReplyNull:
		e.line(e.either("$-1", "_"))
	case api.ReplyNulls:
		e.line(e.either("*-1", "_"))
	case api.ReplyBool:
		e.bool(r.N != 0)
	case api.ReplyNone:
		return depth == 0
	default:
		return e.list(r, depth)
	}
	return true
}

// list writes a reply that is a list of others; false, if it is none.
func (e *encoder) list(r api.Reply, depth int) bool {
	count := len(r.List)
	mark := "*"
	switch r.Kind {
	case api.ReplyArray:
	case api.ReplyMap:
		if count%2 != 0 {
			return false
		}
		if e.proto == proto3 {
			count /= 2
		}
		mark = "%"
	case api.ReplySet:
		mark = "~"
	case api.ReplyPush:
		mark = ">"
	default:
		return false
	}
	if depth == deepest {
		return false
	}
	e.line(e.either("*", mark), varint.Digits(count))
	for _, part := range r.List {
		if !e.reply(part, depth+1) {
			return false
		}
	}
	return true
}

func (e *encoder) bool(yes bool) {
	if yes {
		e.line(e.either(":1", "#t"))
	} else {
		e.line(e.either(":0", "#f"))
	}
}

// either gives the one or the other by the form of the protocol.
func (e *encoder) either(two, three string) string {
	if e.proto == proto2 {
		return two
	}
	return three
}

func (e *encoder) line(pieces ...string) {
	for _, piece := range pieces {
		e.out.WriteString(piece)
	}
	e.out.WriteString(crlf)
}

// onOneLine keeps a text from ending its line too early.
func onOneLine(text string) string {
	return strings.ReplaceAll(strings.ReplaceAll(text, "\r", " "), "\n", " ")
}

// Command gives a request's bytes.
func Command(args ...string) string {
	if len(args) == 0 {
		return ""
	}
	var e encoder
	e.line("*", varint.Digits(len(args)))
	for _, word := range args {
		e.line("$", varint.Digits(len(word)))
		e.line(word)
	}
	return e.out.String()
}
