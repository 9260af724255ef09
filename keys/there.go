package keys

import (
	"errors"

	"cistern/api"
	"cistern/command"
	"cistern/glob"
	"cistern/resp"
	"cistern/value"
)

var errUses = errors.New("ERR An LFU maxmemory policy is not selected")

// peek gives a key's value, if it is there; the key is not used by that.
func (c *call) peek(key string) (*value.Value, bool) { return c.Space.Peek(c.DB, key) }

func (c *call) there(key string) bool {
	_, there := c.peek(key)
	return there
}

// count tells of how many of the words a function says yes, asked of one after the other.
func (c *call) count(yes func(key string) bool) (api.Reply, error) {
	n := 0
	for _, key := range c.Args {
		if yes(key) {
			n++
		}
	}
	return resp.Int(n), nil
}

func (c *call) drop() (api.Reply, error) {
	return c.count(func(key string) bool { return c.Space.Drop(c.DB, key) })
}

func (c *call) exist() (api.Reply, error) { return c.count(c.there) }

func (c *call) touch() (api.Reply, error) {
	return c.count(func(key string) bool { return c.Look(key) != nil })
}

func (c *call) kind() (api.Reply, error) { return resp.Status(c.kindOf(c.Args[0])), nil }

// kindOf is the word for the kind of a key's value.
func (c *call) kindOf(key string) string {
	v, there := c.peek(key)
	if !there {
		return "none"
	}
	switch v.Kind() {
	case api.KindString:
		return "string"
	case api.KindList:
		return "list"
	case api.KindSet:
		return "set"
	case api.KindZset:
		return "zset"
	}
	return "hash"
}

// object tells of a key what does not show in what it holds.
func (c *call) object() (api.Reply, error) {
	word, key := glob.Fold(c.Args[0]), c.Args[1]
	switch word {
	case "encoding", "idletime", "refcount":
	case "freq":
		return api.Reply{}, errUses
	default:
		return api.Reply{}, command.Fault(api.ErrArg)
	}
	v, there := c.peek(key)
	switch {
	case !there:
		return resp.Null(), nil
	case word == "encoding":
		return resp.Bulk(v.Encoding()), nil
	case word == "idletime":
		return resp.Int(c.Space.Idle(c.DB, key)), nil
	}
	return resp.Int(1), nil
}
