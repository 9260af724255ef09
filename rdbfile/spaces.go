package rdbfile

import (
	"strings"

	"cistern/api"
	"cistern/codec"
	"cistern/keyspace"
)

func cloned(aux ...api.Pair) []api.Pair {
	var list []api.Pair
	for _, pair := range aux {
		list = append(list, api.Pair{Name: strings.Clone(pair.Name), Value: strings.Clone(pair.Value)})
	}
	return list
}

// itemsOf gives the items of a database. Nothing of the space can be seen to change by it: no key counts as used.
func itemsOf(sp *keyspace.Space, db int) ([]api.Item, api.Errno) {
	var items []api.Item
	for _, key := range sp.Keys(db) {
		v, _ := sp.Peek(db, key)
		expiry, _ := sp.Expiry(db, key)
		typ, body, e := codec.Encode(v, sp.Config().Compress)
		if e != api.OK {
			return nil, e
		}
		items = append(items, api.Item{Key: key, Body: body, Type: typ, Expiry: expiry})
	}
	return items, api.OK
}

// hasAll tells whether a configuration has the databases.
func hasAll(c api.Config, spaces ...api.Space) bool {
	for _, space := range spaces {
		if space.Index >= c.Spaces {
			return false
		}
	}
	return true
}

// put puts the items of a database whose time has not come. All bodies are looked at.
func put(sp *keyspace.Space, space api.Space) api.Errno {
	for _, item := range space.Items {
		v, e := codec.Decode(item.Type, item.Body, sp.Config().Limits)
		if e != api.OK {
			return e
		}
		if item.Expiry != never && item.Expiry <= sp.Now() {
			continue
		}
		if e := sp.Put(space.Index, item.Key, v); e != api.OK {
			return e
		}
		if item.Expiry != never {
			sp.Expire(space.Index, item.Key, item.Expiry)
		}
	}
	return api.OK
}
