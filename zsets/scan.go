package zsets

import (
	"cistern/api"
	"cistern/command"
)

func (c *call) scan() (api.Reply, error) {
	asked, err := command.ReadScan(c.Args[1], c.Args[2:]...)
	if err != nil {
		return api.Reply{}, err
	}
	z, err := c.zset(c.Args[0])
	if err != nil {
		return api.Reply{}, err
	}
	members, next := z.Scan(asked.Cursor, asked.Count)
	return command.Scanned(next, inTurns(z.scored(asked.Matching(members)...)...)...), nil
}
