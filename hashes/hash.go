package hashes

import (
	"cmp"
	"slices"

	"cistern/api"
	"cistern/command"
	"cistern/value"
)

// few is how often a name may be sought in a compact hash: to seek it goes through the whole hash, so that more names are sought in a list of all fields that is laid down once.
const few = 16

// hash is what was found of a key that is no other thing than a hash. One that is not there counts as the empty one.
type hash struct {
	call  *call
	key   string
	value *value.Value // nil, if the key is not there
}

// hash looks at the key.
func (c *call) hash() (hash, error) {
	key := c.Args[0]
	v, err := c.LookFor(api.KindHash, key)
	return hash{c, key, v}, err
}

func (h hash) there() bool { return h.value != nil }

func (h hash) len() int {
	if !h.there() {
		return 0
	}
	return h.value.Len()
}

// field gives the value of a name, and whether the name is there.
func (h hash) field(name string) (string, bool) {
	if !h.there() {
		return "", false
	}
	text, found, _ := h.value.Field(name)
	return text, found
}

// fields gives all fields, by rising name; they are the caller's own memory.
func (h hash) fields() []api.Field {
	if !h.there() {
		return nil
	}
	fields, _ := h.value.Fields()
	return fields
}

// finder gives a function that tells what field does; it is going to be asked so many times.
func (h hash) finder(times int) func(name string) (string, bool) {
	if !h.there() || times <= few || h.value.Encoding() == "hashtable" {
		return h.field
	}
	fields := h.fields()
	return func(name string) (string, bool) {
		i, found := slices.BinarySearchFunc(fields, name, func(f api.Field, name string) int {
			return cmp.Compare(f.Name, name)
		})
		if !found {
			return "", false
		}
		return fields[i].Value, true
	}
}

// put puts fields, of which there is one at least; a hash that is not there is made of them. How many names are new.
func (h hash) put(fields ...api.Field) (int, error) {
	if !h.there() {
		return h.makeOf(fields...)
	}
	fresh, e := h.value.Put(fields...)
	if e == api.OK {
		h.changed()
	}
	return fresh, command.Fault(e)
}

// makeOf lets the key be a new hash of fields; how many it has.
func (h hash) makeOf(fields ...api.Field) (int, error) {
	v := h.call.New(api.KindHash)
	fresh, e := v.Put(fields...)
	if e == api.OK {
		e = h.call.Space.Put(h.call.DB, h.key, v)
	}
	return fresh, command.Fault(e)
}

// erase takes names out with their values; how many were there.
func (h hash) erase(names ...string) int {
	if !h.there() {
		return 0
	}
	gone, _ := h.value.Erase(names...)
	if gone > 0 {
		h.changed()
	}
	return gone
}

// scan gives some names, and the cursor for the next ones.
func (h hash) scan(cursor, n int) ([]string, int) {
	if !h.there() {
		return nil, 0
	}
	names, next, _ := h.value.Scan(cursor, n)
	return names, next
}

// changed tells the space that the hash was worked on.
func (h hash) changed() { h.call.Space.Changed(h.call.DB, h.key) }
