package zsets

import (
	"slices"

	"cistern/api"
	"cistern/command"
)

func (c *call) scan() (api.Reply, error) {
	asked, err := command.ReadScan(c.Args[1], c.Args[2:]...)
	if err != nil {
		return api.Reply{}, err
	}
	z, err := c.zset(c.Args[0])
	if err != nil {
		return api.Reply{}, err
	}
	members, next := z.Scan(asked.Cursor, asked.Count)
	members = slices.DeleteFunc(members, func(member string) bool { return !asked.Matches(member) })
	return command.Scanned(next, inTurns(z.scored(members...)...)...), nil
}
