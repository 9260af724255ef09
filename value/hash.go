package value

import (
	"cmp"
	"slices"
	"strings"

	"cistern/api"
)

// hash is the body of a hash.
type hash interface {
	group
	field(name string) (string, bool)
	fields() []api.Field
	// put gives fields values up to the first one that this encoding has no room for: how many it went through, and how many names of these are new.
	put(fields ...api.Field) (int, int)
}

// packHash is a hash in a listpack: names and values in turns, in the order in which the fields joined.
type packHash struct{ packed }

func newPackHash(th api.Thresholds) *packHash {
	return &packHash{newPacked(room{th.HashEntries, th.HashBytes}, 2, 2)}
}

func (h *packHash) clone() body                      { return &packHash{h.twin()} }
func (h *packHash) field(name string) (string, bool) { return h.behind(name) }
func (h *packHash) fields() []api.Field              { return fieldsOf(h.entries()) }

// fieldsOf gives the fields whose names and values stand in turns.
func fieldsOf(entries []string) []api.Field {
	fields := make([]api.Field, 0, len(entries)/2)
	for i := 0; i < len(entries); i += 2 {
		fields = append(fields, api.Field{Name: entries[i], Value: entries[i+1]})
	}
	return fields
}

// inTurns gives the names and values of fields in turns.
func inTurns(fields []api.Field) []string {
	entries := make([]string, 0, 2*len(fields))
	for _, f := range fields {
		entries = append(entries, f.Name, f.Value)
	}
	return entries
}

func (h *packHash) put(fields ...api.Field) (int, int) {
	all, done := h.fields(), 0
	for _, f := range fields {
		i := slices.IndexFunc(all, func(old api.Field) bool { return old.Name == f.Name })
		if i < 0 {
			i = len(all)
		}
		if !h.room.holds(max(len(all), i+1), f.Name, f.Value) {
			break
		}
		if i == len(all) {
			all = append(all, f)
		}
		all[i] = f
		done++
	}
	fresh := len(all) - h.size
	h.hold(inTurns(all)...)
	return done, fresh
}

// tableHash is a hash in a dict.
type tableHash struct{ table[string] }

func newTableHash(fields ...api.Field) *tableHash {
	h := &tableHash{newTable(func(value string) int { return len(value) })}
	h.put(fields...)
	return h
}

func (h *tableHash) raw() []string { return inTurns(h.fields()) }
func (h *tableHash) clone() body   { return &tableHash{h.twin()} }

func (h *tableHash) field(name string) (string, bool) {
	value, ok := h.dict.Get(name)
	return strings.Clone(value), ok
}

func (h *tableHash) fields() []api.Field {
	names := h.names()
	fields := make([]api.Field, len(names))
	for i, name := range names {
		value, _ := h.field(name)
		fields[i] = api.Field{Name: name, Value: value}
	}
	return fields
}

func (h *tableHash) put(fields ...api.Field) (int, int) {
	fresh := 0
	for _, f := range fields {
		if h.give(f.Name, strings.Clone(f.Value)) {
			fresh++
		}
	}
	return len(fields), fresh
}

// risingFields gives the fields by rising name.
func risingFields(h hash) []api.Field {
	fields := h.fields()
	slices.SortFunc(fields, func(a, b api.Field) int { return cmp.Compare(a.Name, b.Name) })
	return fields
}

func (v *Value) asHash() (hash, api.Errno) {
	if h, ok := v.body.(hash); ok {
		return h, api.OK
	}
	return nil, api.ErrKind
}

// Put gives fields of a hash values; how many names are new.
func (v *Value) Put(fields ...api.Field) (int, api.Errno) {
	h, err := v.asHash()
	if err != api.OK {
		return 0, err
	}
	entries := inTurns(fields)
	if anyLong(entries...) || tooMany(h, namesIn(entries, 2)) {
		return 0, api.ErrLong
	}
	return v.joinFields(fields...), api.OK
}

// joinFields gives fields values, in whatever encoding there is room for them; how many names are new.
func (v *Value) joinFields(fields ...api.Field) int {
	h, _ := v.asHash()
	done, fresh := h.put(fields...)
	if done < len(fields) {
		v.grow()
		fresh += v.joinFields(fields[done:]...)
	}
	return fresh
}

// Erase takes fields out of a hash; how many were there.
func (v *Value) Erase(names ...string) (int, api.Errno) {
	h, err := v.asHash()
	if err != api.OK {
		return 0, err
	}
	return h.drop(names...), api.OK
}

// Field gives the value of a hash's field.
func (v *Value) Field(name string) (string, bool, api.Errno) {
	h, err := v.asHash()
	if err != api.OK {
		return "", false, err
	}
	value, ok := h.field(name)
	return value, ok, api.OK
}

// Fields gives all fields of a hash, by rising name.
func (v *Value) Fields() ([]api.Field, api.Errno) {
	h, err := v.asHash()
	if err != api.OK {
		return nil, err
	}
	return risingFields(h), api.OK
}
