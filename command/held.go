package command

import (
	"cistern/api"
	"cistern/value"
)

// Look gives the value of a key of whatever kind; nil, if the key is not there. The key is used by that, so that no command may look at a word twice.
func (c *Call) Look(key string) *value.Value {
	v, _ := c.Space.Get(c.DB, key)
	return v
}

// LookFor gives the value of a key that must be of a kind, if it is there.
func (c *Call) LookFor(kind int, key string) (*value.Value, error) {
	v := c.Look(key)
	return v, MustBe(kind, v)
}

// MustBe refuses a value of another kind; none at all it does not.
func MustBe(kind int, v *value.Value) error {
	if v != nil && v.Kind() != kind {
		return Fault(api.ErrKind)
	}
	return nil
}

// New makes an empty value. The space's thresholds are such as may be, so that it does not fail.
func (c *Call) New(kind int) *value.Value {
	v, _ := value.New(kind, c.Space.Config().Limits)
	return v
}
