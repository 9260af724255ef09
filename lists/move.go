package lists

import (
	"cistern/api"
	"cistern/resp"
)

func (c *call) move() (api.Reply, error) {
	from, err := isFront(c.Args[2])
	if err != nil {
		return api.Reply{}, err
	}
	to, err := isFront(c.Args[3])
	if err != nil {
		return api.Reply{}, err
	}
	return c.moveEntry(from, to)
}

func (c *call) moveBackToFront() (api.Reply, error) { return c.moveEntry(false, true) }

// moveEntry lets the entry at an end of the source stand at an end of the dest.
func (c *call) moveEntry(from, to bool) (api.Reply, error) {
	source, err := c.list(c.Args[0])
	if err != nil || !source.There() {
		return resp.Null(), err
	}
	dest, err := c.list(c.Args[1])
	if err != nil {
		return api.Reply{}, err
	}
	if dest.Key == source.Key {
		return resp.Bulk(source.turn(from, to)), nil
	}
	entry, _ := source.at(source.end(from))
	// It joins first: if that is refused, nothing has gone.
	if err := dest.push(to, entry); err != nil {
		return api.Reply{}, err
	}
	source.pop(from, 1)
	return resp.Bulk(entry), nil
}

// end is the place of the first or the last entry.
func (l list) end(front bool) int {
	if front {
		return 0
	}
	return l.Len() - 1
}

// turn moves an entry within a list that is there. It goes first, as a full list has no room for it; the space is told only then, as an empty list would go.
func (l list) turn(from, to bool) string {
	entries, _ := l.Value.Pop(from, 1)
	l.Value.Push(to, entries...)
	l.Changed()
	return entries[0]
}
