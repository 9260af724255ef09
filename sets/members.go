package sets

import (
	"cistern/api"
	"cistern/command"
	"cistern/resp"
)

func (c *call) add() (api.Reply, error) {
	s, err := c.set(c.Args[0])
	if err != nil {
		return api.Reply{}, err
	}
	fresh, err := s.add(c.Args[1:]...)
	return resp.Int(fresh), err
}

func (c *call) remove() (api.Reply, error) {
	s, err := c.set(c.Args[0])
	if err != nil {
		return api.Reply{}, err
	}
	return resp.Int(s.drop(c.Args[1:]...)), nil
}

func (c *call) length() (api.Reply, error) {
	s, err := c.set(c.Args[0])
	return resp.Int(s.Len()), err
}

func (c *call) members() (api.Reply, error) {
	s, err := c.set(c.Args[0])
	if err != nil {
		return api.Reply{}, err
	}
	return command.Listed(api.ReplySet, s.members()...), nil
}

func (c *call) isMember() (api.Reply, error) {
	s, err := c.set(c.Args[0])
	if err != nil {
		return api.Reply{}, err
	}
	return command.YesOrNo(s.has(1)(c.Args[1])), nil
}

func (c *call) areMembers() (api.Reply, error) {
	s, err := c.set(c.Args[0])
	if err != nil {
		return api.Reply{}, err
	}
	words := c.Args[1:]
	has := s.has(len(words))
	list := make([]api.Reply, len(words))
	for i, word := range words {
		list[i] = command.YesOrNo(has(word))
	}
	return api.Reply{Kind: api.ReplyArray, List: list}, nil
}

func (c *call) move() (api.Reply, error) {
	source, err := c.set(c.Args[0])
	if err != nil || !source.There() {
		return resp.Int(0), err
	}
	dest, err := c.set(c.Args[1])
	if err != nil {
		return api.Reply{}, err
	}
	member := c.Args[2]
	if !source.has(1)(member) {
		return resp.Int(0), nil
	}
	if dest.Key == source.Key {
		return resp.Int(1), nil
	}
	// It joins first: if that is refused, nothing has gone.
	if _, err := dest.add(member); err != nil {
		return api.Reply{}, err
	}
	source.drop(member)
	return resp.Int(1), nil
}
