package texts

import (
	"cistern/api"
	"cistern/command"
	"cistern/resp"
	"cistern/value"
)

// held is what was found of a key; the value is nil, if the key is not there.
type held struct {
	key   string
	value *value.Value
}

func (h held) there() bool { return h.value != nil }

func (h held) isText() bool { return h.there() && h.value.Kind() == api.KindString }

// text is the string; the empty one, if there is none.
func (h held) text() string {
	if !h.isText() {
		return ""
	}
	text, _ := h.value.Text()
	return text
}

// len is how many bytes the string has, told without a copy of it.
func (h held) len() int {
	if !h.isText() {
		return 0
	}
	return h.value.Len()
}

// reply is the string, or null, if there is none.
func (h held) reply() api.Reply {
	if !h.isText() {
		return resp.Null()
	}
	return resp.Bulk(h.text())
}

// look finds a key of whatever kind.
func (c *call) look(key string) held { return held{key, c.Look(key)} }

// lookText finds a key that must not be of another kind.
func (c *call) lookText(key string) (held, error) {
	v, err := c.LookFor(api.KindString, key)
	return held{key, v}, err
}

// write gives a key a string anew, by which it has no expiry any more.
func (c *call) write(key, text string) error {
	return c.Make(api.KindString, key, func(v *value.Value) api.Errno { return v.SetText(text) })
}

// workOn gives a key that was looked at another string: in its place, by which its expiry stays, or anew, if it is not there.
func (c *call) workOn(h held, text string) error {
	if !h.there() {
		return c.write(h.key, text)
	}
	if e := h.value.SetText(text); e != api.OK {
		return command.Fault(e)
	}
	c.Space.Changed(c.DB, h.key)
	return nil
}
