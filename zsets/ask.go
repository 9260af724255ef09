package zsets

import (
	"cistern/api"
	"cistern/command"
	"cistern/resp"
	"cistern/varint"
)

func (c *call) length() (api.Reply, error) {
	z, err := c.zset(c.Args[0])
	return resp.Int(z.Len()), err
}

func (c *call) score() (api.Reply, error) {
	z, err := c.zset(c.Args[0])
	if err != nil {
		return api.Reply{}, err
	}
	return orNull(z.score(c.Args[1])), nil
}

func (c *call) scores() (api.Reply, error) {
	z, err := c.zset(c.Args[0])
	if err != nil {
		return api.Reply{}, err
	}
	members := c.Args[1:]
	find := z.finder(len(members))
	list := make([]api.Reply, len(members))
	for i, member := range members {
		list[i] = orNull(find(member))
	}
	return api.Reply{Kind: api.ReplyArray, List: list}, nil
}

// orNull tells a score, or null, if there is none.
func orNull(score int, found bool) api.Reply {
	if !found {
		return resp.Null()
	}
	return resp.Bulk(varint.Digits(score))
}

// ranking gives the command that tells a member's rank, or, back, its rank from the greatest down.
func ranking(back bool) func(c *call) (api.Reply, error) {
	return func(c *call) (api.Reply, error) {
		withScore := false
		if err := (command.Options{"withscore": command.Flag(&withScore)}).Read(c.Args[2:]); err != nil {
			return api.Reply{}, err
		}
		z, err := c.zset(c.Args[0])
		if err != nil {
			return api.Reply{}, err
		}
		if withScore {
			return z.tellPlace(c.Args[1], back), nil
		}
		return z.tellRank(c.Args[1], back), nil
	}
}

func (z zset) rank(member string, back bool) (int, bool) {
	if !z.There() {
		return 0, false
	}
	rank, found, _ := z.Value.Rank(member, back)
	return rank, found
}

func (z zset) tellRank(member string, back bool) api.Reply {
	rank, found := z.rank(member, back)
	if !found {
		return resp.Null()
	}
	return resp.Int(rank)
}

// tellPlace tells a member's rank and its score.
func (z zset) tellPlace(member string, back bool) api.Reply {
	rank, found := z.rank(member, back)
	if !found {
		return command.NullArray()
	}
	return resp.Array(resp.Int(rank), orNull(z.score(member)))
}
