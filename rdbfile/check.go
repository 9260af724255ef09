package rdbfile

import (
	"cistern/api"
	"cistern/codec"
)

// check tells whether an image may be.
func check(i api.Image) api.Errno {
	switch {
	case anyAuxLong(i.Aux...) || anyKeyLong(i.Spaces...) || tooMany(i.Spaces...):
		return api.ErrLong
	case !all(i.Spaces, keysDiffer):
		return api.ErrTwice
	case !all(i.Spaces, bodiesMayBe):
		return api.ErrValue
	case !indexesRise(i.Spaces...) || !all(i.Spaces, isSound):
		return api.ErrArg
	}
	return api.OK
}

func anyAuxLong(aux ...api.Pair) bool {
	for _, pair := range aux {
		if len(pair.Name) > api.MaxElement || len(pair.Value) > api.MaxElement {
			return true
		}
	}
	return false
}

func anyKeyLong(spaces ...api.Space) bool {
	for _, space := range spaces {
		for _, item := range space.Items {
			if len(item.Key) > api.MaxKey {
				return true
			}
		}
	}
	return false
}

func tooMany(spaces ...api.Space) bool {
	n := 0
	for _, space := range spaces {
		n += len(space.Items)
	}
	return n > api.MaxKeys
}

// all tells whether something holds for each space.
func all(spaces []api.Space, holds func(api.Space) bool) bool {
	for _, space := range spaces {
		if !holds(space) {
			return false
		}
	}
	return true
}

func keysDiffer(space api.Space) bool {
	keys := make(map[string]struct{}, len(space.Items))
	for _, item := range space.Items {
		keys[item.Key] = struct{}{}
	}
	return len(keys) == len(space.Items)
}

func bodiesMayBe(space api.Space) bool {
	for _, item := range space.Items {
		size, e := codec.Size(item.Type, item.Body)
		if e != api.OK || size != len(item.Body) {
			return false
		}
	}
	return true
}

func indexesRise(spaces ...api.Space) bool {
	ahead := -1
	for _, space := range spaces {
		if space.Index <= ahead || space.Index >= api.MaxSpaces {
			return false
		}
		ahead = space.Index
	}
	return true
}

// isSound tells whether a space has items, each with an expiry that may be.
func isSound(space api.Space) bool {
	for _, item := range space.Items {
		if item.Expiry < never || item.Expiry > api.MaxNumber {
			return false
		}
	}
	return len(space.Items) > 0
}
