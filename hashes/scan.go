package hashes

import (
	"cistern/api"
	"cistern/command"
)

func (c *call) scan() (api.Reply, error) {
	bare := false // names without their values
	noValues := func(behind []string) ([]string, error) {
		if bare {
			return nil, command.Fault(api.ErrArg)
		}
		bare = true
		return behind, nil
	}
	asked, err := command.ReadScanWith(command.Options{"novalues": noValues}, c.Args[1], c.Args[2:]...)
	if err != nil {
		return api.Reply{}, err
	}
	h, err := c.hash()
	if err != nil {
		return api.Reply{}, err
	}
	names, next := h.Scan(asked.Cursor, asked.Count)
	names = asked.Matching(names)
	if bare {
		return command.Scanned(next, names...), nil
	}
	return command.Scanned(next, inTurns(h.found(names...)...)...), nil
}

// found gives the fields of names that are there, in the order of the names.
func (h hash) found(names ...string) []api.Field {
	find := h.finder(len(names))
	fields := make([]api.Field, len(names))
	for i, name := range names {
		text, _ := find(name)
		fields[i] = api.Field{Name: name, Value: text}
	}
	return fields
}
