package zsets

import (
	"cistern/api"
	"cistern/command"
	"cistern/resp"
)

// popping gives the command that takes the first members out, or, back, the last ones.
func popping(back bool) func(c *call) (api.Reply, error) {
	return func(c *call) (api.Reply, error) {
		n := 1
		if len(c.Args) > 1 {
			var err error
			if n, err = command.Amount(c.Args[1]); err != nil {
				return api.Reply{}, err
			}
		}
		z, err := c.zset(c.Args[0])
		if err != nil {
			return api.Reply{}, err
		}
		members := z.part(0, n, back)
		z.drop(command.NamesOf(members...)...)
		return tellMembers(true, members...), nil
	}
}

// sample tells one member by chance, or as many as a word says.
func (c *call) sample() (api.Reply, error) {
	if len(c.Args) > 1 {
		return c.sampleSome()
	}
	z, err := c.zset(c.Args[0])
	if err != nil || !z.There() {
		return resp.Null(), err
	}
	return resp.Bulk(z.at(c.Space.Random(z.Len()))[0].Member), nil
}

func (c *call) sampleSome() (api.Reply, error) {
	withScores := false
	if err := (command.Options{"withscores": command.Flag(&withScores)}).Read(c.Args[2:]); err != nil {
		return api.Reply{}, err
	}
	n, err := command.SampleSize(c.Args[1])
	if err != nil {
		return api.Reply{}, err
	}
	z, err := c.zset(c.Args[0])
	if err != nil {
		return api.Reply{}, err
	}
	return tellMembers(withScores, z.at(c.Sample(n, z.Len())...)...), nil
}
