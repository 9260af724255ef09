package hashes

import (
	"cistern/api"
	"cistern/command"
	"cistern/resp"
)

func (c *call) get() (api.Reply, error) {
	h, err := c.hash()
	if err != nil {
		return api.Reply{}, err
	}
	return orNull(h.field(c.Args[1])), nil
}

func (c *call) getMany() (api.Reply, error) {
	h, err := c.hash()
	if err != nil {
		return api.Reply{}, err
	}
	names := c.Args[1:]
	find := h.finder(len(names))
	list := make([]api.Reply, len(names))
	for i, name := range names {
		list[i] = orNull(find(name))
	}
	return api.Reply{Kind: api.ReplyArray, List: list}, nil
}

// orNull tells a value that is nobody else's memory, or null, if there is none. It is not copied again, as it may be told very often.
func orNull(text string, found bool) api.Reply {
	if !found {
		return resp.Null()
	}
	return api.Reply{Kind: api.ReplyBulk, Text: text}
}

func (c *call) exists() (api.Reply, error) {
	h, err := c.hash()
	if err != nil {
		return api.Reply{}, err
	}
	_, found := h.field(c.Args[1])
	return command.YesOrNo(found), nil
}

func (c *call) valueLength() (api.Reply, error) {
	h, err := c.hash()
	if err != nil {
		return api.Reply{}, err
	}
	text, _ := h.field(c.Args[1])
	return resp.Int(len(text)), nil
}

func (c *call) length() (api.Reply, error) {
	h, err := c.hash()
	return resp.Int(h.Len()), err
}

// telling gives the command that tells all fields, by rising name: a reply of a kind with what a function takes of them.
func telling(kind int, take func(fields ...api.Field) []string) func(c *call) (api.Reply, error) {
	return func(c *call) (api.Reply, error) {
		h, err := c.hash()
		if err != nil {
			return api.Reply{}, err
		}
		return command.Listed(kind, take(h.fields()...)...), nil
	}
}
