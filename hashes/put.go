package hashes

import (
	"errors"

	"cistern/api"
	"cistern/command"
	"cistern/resp"
	"cistern/varint"
)

var errValue = errors.New("ERR hash value is not an integer")

func (c *call) set() (api.Reply, error) {
	fresh, err := c.putPairs()
	return resp.Int(fresh), err
}

func (c *call) setMany() (api.Reply, error) {
	_, err := c.putPairs()
	return resp.Status("OK"), err
}

// putPairs puts the fields that the words behind the key are; how many names are new.
func (c *call) putPairs() (int, error) {
	words := c.Args[1:]
	if err := c.Pairs(words); err != nil {
		return 0, err
	}
	h, err := c.hash()
	if err != nil {
		return 0, err
	}
	return h.put(fieldsOf(words...)...)
}

func (c *call) setNew() (api.Reply, error) {
	h, err := c.hash()
	if err != nil {
		return api.Reply{}, err
	}
	if _, found := h.field(c.Args[1]); found {
		return resp.Int(0), nil
	}
	fresh, err := h.put(fieldsOf(c.Args[1:]...)...)
	return resp.Int(fresh), err
}

// increase adds to the number that a value is.
func (c *call) increase() (api.Reply, error) {
	n, err := command.Number(c.Args[2])
	if err != nil {
		return api.Reply{}, err
	}
	h, err := c.hash()
	if err != nil {
		return api.Reply{}, err
	}
	name := c.Args[1]
	was, err := h.number(name)
	if err != nil {
		return api.Reply{}, err
	}
	sum, err := command.Sum(was, n)
	if err != nil {
		return api.Reply{}, err
	}
	_, err = h.put(api.Field{Name: name, Value: varint.Digits(sum)})
	return resp.Int(sum), err
}

// number is the number that the value of a name is; 0, if the name is not there.
func (h hash) number(name string) (int, error) {
	text, found := h.field(name)
	if !found {
		return 0, nil
	}
	n, ok := varint.Number(text)
	if !ok {
		return 0, errValue
	}
	return n, nil
}

func (c *call) remove() (api.Reply, error) {
	h, err := c.hash()
	if err != nil {
		return api.Reply{}, err
	}
	return resp.Int(h.erase(c.Args[1:]...)), nil
}
