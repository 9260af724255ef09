package texts

import (
	"cistern/api"
	"cistern/command"
	"cistern/resp"
)

func getMany(c *call) (api.Reply, error) {
	list := make([]api.Reply, len(c.Args))
	for i, key := range c.Args {
		list[i] = c.look(key).reply()
	}
	return resp.Array(list...), nil
}

func setMany(c *call) (api.Reply, error) {
	if err := c.Pairs(c.Args); err != nil {
		return api.Reply{}, err
	}
	return resp.Status("OK"), c.writeMany()
}

func setManyNew(c *call) (api.Reply, error) {
	if err := c.Pairs(c.Args); err != nil {
		return api.Reply{}, err
	}
	for i := 0; i < len(c.Args); i += 2 {
		if c.look(c.Args[i]).there() {
			return resp.Int(0), nil
		}
	}
	return resp.Int(1), c.writeMany()
}

// writeMany writes all pairs, or none: what would be refused is sought ahead of the first one.
func (c *call) writeMany() error {
	if c.anyLong() {
		return command.Fault(api.ErrLong)
	}
	if c.Space.Len(-1)+c.fresh() > api.MaxKeys {
		return command.Fault(api.ErrFull)
	}
	for i := 0; i < len(c.Args); i += 2 {
		if err := c.write(c.Args[i], c.Args[i+1]); err != nil {
			return err
		}
	}
	return nil
}

func (c *call) anyLong() bool {
	for i := 0; i < len(c.Args); i += 2 {
		if len(c.Args[i]) > api.MaxKey || len(c.Args[i+1]) > api.MaxElement {
			return true
		}
	}
	return false
}

// fresh is how many keys of the pairs are not there, each counted once. They are only written, so they are not used by that.
func (c *call) fresh() int {
	keys := map[string]struct{}{}
	for i := 0; i < len(c.Args); i += 2 {
		if _, there := c.Space.Peek(c.DB, c.Args[i]); !there {
			keys[c.Args[i]] = struct{}{}
		}
	}
	return len(keys)
}
