package keyspace

import "cistern/api"

// Rename gives a value another key.
func (s *Space) Rename(db int, key, to string) api.Errno {
	r, h := s.find(db, key)
	switch {
	case !s.has(db):
		return api.ErrArg
	case len(to) > api.MaxKey:
		return api.ErrLong
	case h == nil:
		return api.ErrNone
	case to == key:
		return api.OK
	}
	if r.held[to] != nil {
		r.leave(to)
	}
	at := r.expiry(key)
	r.leave(key)
	s.come(r, to, h.value, at)
	return api.OK
}

// Move moves a key to another database.
func (s *Space) Move(db int, key string, to int) api.Errno {
	r, h := s.find(db, key)
	switch {
	case !s.has(db) || !s.has(to) || db == to:
		return api.ErrArg
	case h == nil:
		return api.ErrNone
	case s.rooms[to].held[key] != nil:
		return api.ErrFull
	}
	at := r.expiry(key)
	r.leave(key)
	s.come(s.rooms[to], key, h.value, at)
	return api.OK
}

// Swap exchanges two databases.
func (s *Space) Swap(a, b int) api.Errno {
	if !s.has(a) || !s.has(b) {
		return api.ErrArg
	}
	if a == b {
		return api.OK
	}
	s.rooms[a], s.rooms[b] = s.rooms[b], s.rooms[a]
	s.changeAll(s.rooms[a])
	s.changeAll(s.rooms[b])
	return api.OK
}

// Flush removes all keys; how many.
func (s *Space) Flush(db int) int {
	gone := s.Len(db)
	for i := range s.rooms {
		if db < 0 || db == i {
			s.rooms[i] = newRoom()
		}
	}
	return gone
}
