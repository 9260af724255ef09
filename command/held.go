package command

import (
	"cistern/api"
	"cistern/value"
)

// Held is what was found of a key. One that is not there counts as an empty value.
type Held struct {
	Call  *Call
	Key   string
	Value *value.Value // nil, if the key is not there
}

// Hold looks at a key that must be of a kind, if it is there.
func (c *Call) Hold(kind int, key string) (Held, error) {
	v, err := c.LookFor(kind, key)
	return Held{c, key, v}, err
}

// There tells whether the key is there.
func (h Held) There() bool { return h.Value != nil }

// Len is how many elements the value has.
func (h Held) Len() int {
	if !h.There() {
		return 0
	}
	return h.Value.Len()
}

// Scan gives some members or names, and the cursor for the next ones.
func (h Held) Scan(cursor, n int) ([]string, int) {
	if !h.There() {
		return nil, 0
	}
	names, next, _ := h.Value.Scan(cursor, n)
	return names, next
}

// NamesOf gives members without their scores.
func NamesOf(members ...api.Scored) []string {
	names := make([]string, len(members))
	for i, m := range members {
		names[i] = m.Member
	}
	return names
}

// Changed tells the space that the value was worked on.
func (h Held) Changed() { h.Call.Space.Changed(h.Call.DB, h.Key) }

// Once leaves out those of what was found whose keys came already: a command may name one key a million times.
func Once[H any](key func(h H) string, list ...H) []H {
	keys := map[string]struct{}{}
	var first []H
	for _, h := range list {
		if _, again := keys[key(h)]; !again {
			keys[key(h)] = struct{}{}
			first = append(first, h)
		}
	}
	return first
}

// Look gives the value of a key of whatever kind; nil, if the key is not there. The key is used by that, so that no command may look at a word twice.
func (c *Call) Look(key string) *value.Value {
	v, _ := c.Space.Get(c.DB, key)
	return v
}

// LookFor gives the value of a key that must be of a kind, if it is there.
func (c *Call) LookFor(kind int, key string) (*value.Value, error) {
	v := c.Look(key)
	return v, MustBe(kind, v)
}

// MustBe refuses a value of another kind; none at all it does not.
func MustBe(kind int, v *value.Value) error {
	if v != nil && v.Kind() != kind {
		return Fault(api.ErrKind)
	}
	return nil
}

// New makes an empty value. The space's thresholds are such as may be, so that it does not fail.
func (c *Call) New(kind int) *value.Value {
	v, _ := value.New(kind, c.Space.Config().Limits)
	return v
}

// Make lets a key, whatever it was, have a new value of a kind, as a function fills it.
func (c *Call) Make(kind int, key string, fill func(v *value.Value) api.Errno) error {
	v := c.New(kind)
	e := fill(v)
	if e == api.OK {
		e = c.Space.Put(c.DB, key, v)
	}
	return Fault(e)
}
