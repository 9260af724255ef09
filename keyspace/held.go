package keyspace

import (
	"strings"

	"cistern/api"
	"cistern/value"
)

// find gives what is known of a key; nil, if it is not there.
func (s *Space) find(db int, key string) (*room, *holding) {
	r := s.room(db)
	return r, r.held[key]
}

// Get is a key's value; it is used.
func (s *Space) Get(db int, key string) (*value.Value, bool) {
	_, h := s.find(db, key)
	if h == nil {
		return nil, false
	}
	s.use(h)
	return h.value, true
}

// Peek is a key's value; it is not used.
func (s *Space) Peek(db int, key string) (*value.Value, bool) {
	_, h := s.find(db, key)
	if h == nil {
		return nil, false
	}
	return h.value, true
}

// Put gives a key a value.
func (s *Space) Put(db int, key string, v *value.Value) api.Errno {
	r, h := s.find(db, key)
	switch {
	case !s.has(db) || v == nil || empty(v):
		return api.ErrArg
	case len(key) > api.MaxKey:
		return api.ErrLong
	case h == nil && s.Len(-1) >= api.MaxKeys:
		return api.ErrFull
	}
	s.come(r, key, v, never)
	return api.OK
}

// empty tells whether a value is one that no key may have: a text may be empty.
func empty(v *value.Value) bool { return v.Kind() != api.KindString && v.Len() == 0 }

// come lets a key have a value and an expiry, changed and used.
func (s *Space) come(r *room, key string, v *value.Value, at int) {
	h := r.come(key, v, at)
	s.change(h)
	s.use(h)
}

// Changed says that a key's value was worked on.
func (s *Space) Changed(db int, key string) bool {
	r, h := s.find(db, key)
	switch {
	case h == nil:
		return false
	case empty(h.value):
		r.leave(key)
	default:
		s.change(h)
	}
	return true
}

// Drop removes a key; whether it was there.
func (s *Space) Drop(db int, key string) bool {
	r, h := s.find(db, key)
	if h == nil {
		return false
	}
	r.leave(key)
	return true
}

// Expiry is the time from which a key is not there.
func (s *Space) Expiry(db int, key string) (int, bool) {
	r, h := s.find(db, key)
	if h == nil {
		return 0, false
	}
	return r.expiry(key), true
}

// Expire says it.
func (s *Space) Expire(db int, key string, at int) bool {
	r, h := s.find(db, key)
	at = min(at, api.MaxNumber)
	switch {
	case h == nil:
		return false
	case at <= s.now:
		r.leave(key)
	default:
		r.due[strings.Clone(key)] = at
		s.change(h)
	}
	return true
}

// Persist takes it away.
func (s *Space) Persist(db int, key string) bool {
	r, h := s.find(db, key)
	if h == nil || r.expiry(key) == never {
		return false
	}
	delete(r.due, key)
	s.change(h)
	return true
}

// Mark is the mark of a key's last change.
func (s *Space) Mark(db int, key string) int {
	_, h := s.find(db, key)
	if h == nil {
		return 0
	}
	return h.mark
}

// Idle is how many uses there were since a key's last one.
func (s *Space) Idle(db int, key string) int {
	_, h := s.find(db, key)
	if h == nil {
		return -1
	}
	return s.uses - h.use
}
