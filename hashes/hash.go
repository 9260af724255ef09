package hashes

import (
	"cmp"
	"slices"

	"cistern/api"
	"cistern/command"
	"cistern/value"
)

// few is how often a name may be sought in a compact hash: to seek it goes through the whole hash, so that more names are sought in a list of all fields that is laid down once.
const few = 16

// hash is what was found of a key that is no other thing than a hash. One that is not there counts as the empty one.
type hash struct{ command.Held }

// hash looks at the key.
func (c *call) hash() (hash, error) {
	held, err := c.Hold(api.KindHash, c.Args[0])
	return hash{held}, err
}

// field gives the value of a name, and whether the name is there.
func (h hash) field(name string) (string, bool) {
	if !h.There() {
		return "", false
	}
	text, found, _ := h.Value.Field(name)
	return text, found
}

// fields gives all fields, by rising name; they are the caller's own memory.
func (h hash) fields() []api.Field {
	if !h.There() {
		return nil
	}
	fields, _ := h.Value.Fields()
	return fields
}

// finder gives a function that tells what field does; it is going to be asked so many times.
func (h hash) finder(times int) func(name string) (string, bool) {
	if !h.There() || times <= few || h.Value.Encoding() == "hashtable" {
		return h.field
	}
	fields := h.fields()
	return func(name string) (string, bool) {
		i, found := slices.BinarySearchFunc(fields, name, func(f api.Field, name string) int {
			return cmp.Compare(f.Name, name)
		})
		if !found {
			return "", false
		}
		return fields[i].Value, true
	}
}

// put puts fields, of which there is one at least; a hash that is not there is made of them. How many names are new.
func (h hash) put(fields ...api.Field) (int, error) {
	if !h.There() {
		return h.makeOf(fields...)
	}
	fresh, e := h.Value.Put(fields...)
	if e == api.OK {
		h.Changed()
	}
	return fresh, command.Fault(e)
}

// makeOf lets the key be a new hash of fields; how many it has.
func (h hash) makeOf(fields ...api.Field) (fresh int, err error) {
	err = h.Call.Make(api.KindHash, h.Key, func(v *value.Value) (e api.Errno) {
		fresh, e = v.Put(fields...)
		return e
	})
	return fresh, err
}

// erase takes names out with their values; how many were there.
func (h hash) erase(names ...string) int {
	if !h.There() {
		return 0
	}
	gone, _ := h.Value.Erase(names...)
	if gone > 0 {
		h.Changed()
	}
	return gone
}
