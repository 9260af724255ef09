package sets

import (
	"slices"

	"cistern/api"
	"cistern/command"
)

func (c *call) scan() (api.Reply, error) {
	asked, err := command.ReadScan(c.Args[1], c.Args[2:]...)
	if err != nil {
		return api.Reply{}, err
	}
	s, err := c.set(c.Args[0])
	if err != nil {
		return api.Reply{}, err
	}
	members, next := s.scan(asked.Cursor, asked.Count)
	members = slices.DeleteFunc(members, func(member string) bool { return !asked.Matches(member) })
	return command.Scanned(next, members...), nil
}

// scan gives some members, and the cursor for the next ones.
func (s set) scan(cursor, n int) ([]string, int) {
	if !s.there() {
		return nil, 0
	}
	members, next, _ := s.value.Scan(cursor, n)
	return members, next
}
