package sets

import (
	"cistern/api"
	"cistern/command"
	"cistern/resp"
)

// pop takes one member out by chance, or as many as a word says.
func (c *call) pop() (api.Reply, error) {
	if len(c.Args) > 1 {
		return c.popSome()
	}
	s, err := c.set(c.Args[0])
	if err != nil || !s.There() {
		return resp.Null(), err
	}
	return resp.Bulk(s.take(1)[0]), nil
}

func (c *call) popSome() (api.Reply, error) {
	n, err := command.Amount(c.Args[1])
	if err != nil {
		return api.Reply{}, err
	}
	s, err := c.set(c.Args[0])
	if err != nil {
		return api.Reply{}, err
	}
	return command.Listed(api.ReplySet, s.take(min(n, s.Len()))...), nil
}

// take takes so many members out by chance: they, in the order in which they go.
func (s set) take(n int) []string {
	picked := command.At(s.members(), s.Call.Draw(n, s.Len())...)
	s.drop(picked...)
	return picked
}

// sample tells one member by chance, or as many as a word says.
func (c *call) sample() (api.Reply, error) {
	if len(c.Args) > 1 {
		return c.sampleSome()
	}
	s, err := c.set(c.Args[0])
	if err != nil || !s.There() {
		return resp.Null(), err
	}
	return resp.Bulk(command.At(s.members(), c.Space.Random(s.Len()))[0]), nil
}

func (c *call) sampleSome() (api.Reply, error) {
	n, err := command.SampleSize(c.Args[1])
	if err != nil {
		return api.Reply{}, err
	}
	s, err := c.set(c.Args[0])
	if err != nil {
		return api.Reply{}, err
	}
	return command.Listed(api.ReplyArray, command.At(s.members(), c.Sample(n, s.Len())...)...), nil
}
