package keys

import (
	"errors"

	"cistern/api"
	"cistern/command"
	"cistern/resp"
	"cistern/varint"
)

const everywhere = -1 // the number by which the space means all databases

var errDatabase = errors.New("ERR DB index is out of range")

// database reads a word that must be one of the space's databases.
func (c *call) database(word string) (int, error) {
	n, ok := varint.Number(word)
	if !ok || n < 0 || n >= c.Space.Config().Spaces {
		return 0, errDatabase
	}
	return n, nil
}

func (c *call) size() (api.Reply, error) { return resp.Int(c.Space.Len(c.DB)), nil }

func (c *call) flushOne() (api.Reply, error) { return c.flush(c.DB) }

func (c *call) flushAll() (api.Reply, error) { return c.flush(everywhere) }

// flush lets all keys of a database go. The word that may stand there says how fast that is to be, and changes nothing.
func (c *call) flush(db int) (api.Reply, error) {
	for _, word := range c.Args {
		if !command.Is(word, "async") && !command.Is(word, "sync") {
			return api.Reply{}, command.Fault(api.ErrArg)
		}
	}
	c.Space.Flush(db)
	return resp.Status("OK"), nil
}

func (c *call) swap() (api.Reply, error) {
	a, b, err := command.Both(c.database, c.Args[0], c.Args[1])
	if err != nil {
		return api.Reply{}, err
	}
	return resp.Status("OK"), command.Fault(c.Space.Swap(a, b))
}
