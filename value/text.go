package value

import (
	"strings"

	"cistern/api"
	"cistern/varint"
)

// mostEmbedded is how many bytes a text has at most that is told as embstr.
const mostEmbedded = 44

// text is a text's body.
type text string

func (t text) encoding() string {
	if _, ok := varint.Number(string(t)); ok {
		return "int"
	}
	if len(t) <= mostEmbedded {
		return "embstr"
	}
	return "raw"
}

func (t text) own() string   { return strings.Clone(string(t)) }
func (t text) raw() []string { return []string{t.own()} }
func (t text) count() int    { return len(t) }
func (t text) bytes() int    { return len(t) }
func (t text) clone() body   { return text(t.own()) }

func (v *Value) asText() (text, api.Errno) {
	if t, ok := v.body.(text); ok {
		return t, api.OK
	}
	return "", api.ErrKind
}

// Text gives the text.
func (v *Value) Text() (string, api.Errno) {
	t, err := v.asText()
	return t.own(), err
}

// SetText gives it another text.
func (v *Value) SetText(s string) api.Errno {
	if _, err := v.asText(); err != api.OK {
		return err
	}
	if isLong(s) {
		return api.ErrLong
	}
	v.body = text(strings.Clone(s))
	return api.OK
}
