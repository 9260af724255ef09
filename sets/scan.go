package sets

import (
	"cistern/api"
	"cistern/command"
)

func (c *call) scan() (api.Reply, error) {
	asked, err := command.ReadScan(c.Args[1], c.Args[2:]...)
	if err != nil {
		return api.Reply{}, err
	}
	s, err := c.set(c.Args[0])
	if err != nil {
		return api.Reply{}, err
	}
	members, next := s.Scan(asked.Cursor, asked.Count)
	return command.Scanned(next, asked.Matching(members)...), nil
}
