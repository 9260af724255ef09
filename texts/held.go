package texts

import (
	"errors"

	"cistern/api"
	"cistern/resp"
	"cistern/value"
	"cistern/varint"
)

// held is what was found of a key; the value is nil, if the key is not there.
type held struct {
	key   string
	value *value.Value
}

func (h held) there() bool { return h.value != nil }

func (h held) isText() bool { return h.there() && h.value.Kind() == api.KindString }

// text is the string; the empty one, if there is none.
func (h held) text() string {
	if !h.isText() {
		return ""
	}
	text, _ := h.value.Text()
	return text
}

// len is how many bytes the string has, told without a copy of it.
func (h held) len() int {
	if !h.isText() {
		return 0
	}
	return h.value.Len()
}

// reply is the string, or null, if there is none.
func (h held) reply() api.Reply {
	if !h.isText() {
		return resp.Null()
	}
	return resp.Bulk(h.text())
}

// look finds a key of whatever kind. It is used by that, so that no command may look at a word twice.
func (c *call) look(key string) held {
	v, _ := c.space.Get(c.db, key)
	return held{key, v}
}

// lookText finds a key that must not be of another kind.
func (c *call) lookText(key string) (held, error) {
	h := c.look(key)
	return h, wrongKind(h)
}

func wrongKind(h held) error {
	if h.there() && !h.isText() {
		return fault(api.ErrKind)
	}
	return nil
}

// write gives a key a string anew, by which it has no expiry any more.
func (c *call) write(key, text string) error {
	v, e := value.New(api.KindString, c.space.Config().Limits)
	if e == api.OK {
		e = v.SetText(text)
	}
	if e == api.OK {
		e = c.space.Put(c.db, key, v)
	}
	return fault(e)
}

// workOn gives a key that was looked at another string: in its place, by which its expiry stays, or anew, if it is not there.
func (c *call) workOn(h held, text string) error {
	if !h.there() {
		return c.write(h.key, text)
	}
	if e := h.value.SetText(text); e != api.OK {
		return fault(e)
	}
	c.space.Changed(c.db, h.key)
	return nil
}

// fault is what a client is told of an Errno; nil of OK.
func fault(e api.Errno) error {
	if e == api.OK {
		return nil
	}
	return errors.New(resp.Fault(e).Text)
}

func number(word string) (int, error) {
	n, ok := varint.Number(word)
	if !ok {
		return 0, fault(api.ErrNumber)
	}
	return n, nil
}
