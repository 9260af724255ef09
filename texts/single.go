package texts

import (
	"cistern/api"
	"cistern/command"
	"cistern/resp"
)

func set(c *call) (api.Reply, error) {
	key, text := c.Args[0], c.Args[1]
	o, err := readOptions(c.Args[2:], onlyNew, onlyThere, tellOld, keepExpiry)
	if err != nil {
		return api.Reply{}, err
	}
	at, err := c.due(o)
	if err != nil {
		return api.Reply{}, err
	}
	h := c.look(key)
	reply, unset := resp.Status("OK"), resp.Null()
	if o.tell == tellOld {
		if err := command.MustBe(api.KindString, h.value); err != nil {
			return api.Reply{}, err
		}
		reply = h.reply()
		unset = reply
	}
	if o.when == onlyNew && h.there() || o.when == onlyThere && !h.there() {
		return unset, nil
	}
	if o.expiry == keepExpiry {
		at = c.expiry(h)
	}
	return reply, c.writeUntil(key, text, at)
}

// expiry is when a key expires that was looked at.
func (c *call) expiry(h held) int {
	if !h.there() {
		return command.Never
	}
	at, _ := c.Space.Expiry(c.DB, h.key)
	return at
}

func get(c *call) (api.Reply, error) {
	h, err := c.lookText(c.Args[0])
	return h.reply(), err
}

func getSet(c *call) (api.Reply, error) {
	h, err := c.lookText(c.Args[0])
	if err != nil {
		return api.Reply{}, err
	}
	was := h.reply()
	return was, c.write(h.key, c.Args[1])
}

func getDelete(c *call) (api.Reply, error) {
	h, err := c.lookText(c.Args[0])
	if err != nil {
		return api.Reply{}, err
	}
	was := h.reply()
	c.Space.Drop(c.DB, h.key)
	return was, nil
}

func getExpire(c *call) (api.Reply, error) {
	o, err := readOptions(c.Args[1:], dropExpiry)
	if err != nil {
		return api.Reply{}, err
	}
	at, err := c.due(o)
	if err != nil {
		return api.Reply{}, err
	}
	h, err := c.lookText(c.Args[0])
	if err != nil {
		return api.Reply{}, err
	}
	was := h.reply()
	if at != command.Never {
		c.Space.Expire(c.DB, h.key, at)
	}
	if o.expiry == dropExpiry {
		c.Space.Persist(c.DB, h.key)
	}
	return was, nil
}

func setNew(c *call) (api.Reply, error) {
	h := c.look(c.Args[0])
	if h.there() {
		return resp.Int(0), nil
	}
	return resp.Int(1), c.write(h.key, c.Args[1])
}

func setSeconds(c *call) (api.Reply, error) { return c.setFor(seconds) }

func setMilliseconds(c *call) (api.Reply, error) { return c.setFor(milliseconds) }

// setFor writes a string with an expiry option's time.
func (c *call) setFor(option string) (api.Reply, error) {
	at, err := c.dueBy(option, c.Args[1])
	if err != nil {
		return api.Reply{}, err
	}
	return resp.Status("OK"), c.writeUntil(c.Args[0], c.Args[2], at)
}
