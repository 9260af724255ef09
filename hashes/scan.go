package hashes

import (
	"slices"

	"cistern/api"
	"cistern/command"
)

func (c *call) scan() (api.Reply, error) {
	bare := false // names without their values
	flag := func(option string) bool {
		if bare || !command.Is(option, "novalues") {
			return false
		}
		bare = true
		return true
	}
	asked, err := command.ReadScanWith(flag, c.Args[1], c.Args[2:]...)
	if err != nil {
		return api.Reply{}, err
	}
	h, err := c.hash()
	if err != nil {
		return api.Reply{}, err
	}
	names, next := h.Scan(asked.Cursor, asked.Count)
	names = slices.DeleteFunc(names, func(name string) bool { return !asked.Matches(name) })
	if bare {
		return command.Scanned(next, names...), nil
	}
	return command.Scanned(next, inTurns(h.found(names...)...)...), nil
}

// found gives the fields of names that are there, in the order of the names.
func (h hash) found(names ...string) []api.Field {
	find := h.finder(len(names))
	fields := make([]api.Field, len(names))
	for i, name := range names {
		text, _ := find(name)
		fields[i] = api.Field{Name: name, Value: text}
	}
	return fields
}
