package session

import (
	"slices"
	"strings"

	"cistern/api"
	"cistern/keyspace"
)

// watch is a key with the mark that it had when it was watched.
type watch struct {
	db   int
	key  string
	mark int
}

// of tells whether it is this key's.
func (w watch) of(db int, key string) bool { return w.db == db && w.key == key }

// watching gives what is watched with these keys of a database among it; false, if that is too much.
func watching(watched []watch, sp *keyspace.Space, db int, keys []string) ([]watch, bool) {
	list := slices.Clone(watched)
	for _, key := range keys {
		if slices.ContainsFunc(list, func(w watch) bool { return w.of(db, key) }) {
			continue
		}
		if len(list) == api.MaxWatched {
			return nil, false
		}
		list = append(list, watch{db, strings.Clone(key), sp.Mark(db, key)})
	}
	return list, true
}

// changed tells whether one of these keys has another mark now.
func changed(watched []watch, sp *keyspace.Space) bool {
	return slices.ContainsFunc(watched, func(w watch) bool { return sp.Mark(w.db, w.key) != w.mark })
}
