package lists

import (
	"errors"

	"cistern/api"
	"cistern/command"
	"cistern/resp"
)

var errIndex = errors.New("ERR index out of range")

func (c *call) length() (api.Reply, error) {
	l, err := c.list(c.Args[0])
	return resp.Int(l.Len()), err
}

func (c *call) index() (api.Reply, error) {
	i, l, err := c.numbered()
	if err != nil {
		return api.Reply{}, err
	}
	entry, ok := l.at(l.place(i))
	if !ok {
		return resp.Null(), nil
	}
	return resp.Bulk(entry), nil
}

func (c *call) set() (api.Reply, error) {
	i, l, err := c.numbered()
	if err != nil {
		return api.Reply{}, err
	}
	if !l.There() {
		return api.Reply{}, command.Fault(api.ErrNone)
	}
	place := l.place(i)
	if _, ok := l.at(place); !ok {
		return api.Reply{}, errIndex
	}
	return resp.Status("OK"), l.changedBy(l.Value.SetAt(place, c.Args[2]))
}

// numbered reads the number behind the key and, if it is one, looks at the key.
func (c *call) numbered() (int, list, error) {
	n, err := command.Number(c.Args[1])
	if err != nil {
		return 0, list{}, err
	}
	l, err := c.list(c.Args[0])
	return n, l, err
}

func (c *call) insert() (api.Reply, error) {
	ahead := command.Is(c.Args[1], "before")
	if !ahead && !command.Is(c.Args[1], "after") {
		return api.Reply{}, command.Fault(api.ErrArg)
	}
	l, err := c.list(c.Args[0])
	if err != nil || !l.There() {
		return resp.Int(0), err
	}
	places := l.find(search{entry: c.Args[2], most: 1})
	if len(places) == 0 {
		return resp.Int(-1), nil
	}
	place := places[0]
	if !ahead {
		place++
	}
	length := l.Len() + 1
	return resp.Int(length), l.changedBy(l.Value.Insert(place, c.Args[3]))
}

func (c *call) slice() (api.Reply, error) {
	l, from, end, err := c.stretch()
	if err != nil {
		return api.Reply{}, err
	}
	return resp.Texts(l.part(from, end)...), nil
}

func (c *call) trim() (api.Reply, error) {
	l, from, end, err := c.stretch()
	if err != nil {
		return api.Reply{}, err
	}
	if l.There() {
		l.Value.Remove(end, l.Len()-end)
		l.Value.Remove(0, from)
		l.Changed()
	}
	return resp.Status("OK"), nil
}

// stretch reads from which place to which one, and finds them in the key's list: the first one, and the one behind the last.
func (c *call) stretch() (l list, from, end int, err error) {
	a, err := command.Number(c.Args[1])
	if err != nil {
		return list{}, 0, 0, err
	}
	b, err := command.Number(c.Args[2])
	if err != nil {
		return list{}, 0, 0, err
	}
	l, err = c.list(c.Args[0])
	if err != nil {
		return list{}, 0, 0, err
	}
	from, end = command.Places(a, b, l.Len())
	return l, from, end, nil
}
