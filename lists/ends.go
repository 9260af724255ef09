package lists

import (
	"errors"

	"cistern/api"
	"cistern/command"
	"cistern/resp"
	"cistern/varint"
)

var errCount = errors.New("ERR count should be greater than 0")

func (c *call) pushFront() (api.Reply, error) { return c.push(true, false) }

func (c *call) pushBack() (api.Reply, error) { return c.push(false, false) }

func (c *call) pushFrontThere() (api.Reply, error) { return c.push(true, true) }

func (c *call) pushBackThere() (api.Reply, error) { return c.push(false, true) }

// push pushes the entries to an end; if the list must be there, none to one that is not.
func (c *call) push(front, mustBeThere bool) (api.Reply, error) {
	l, err := c.list(c.Args[0])
	if err != nil {
		return api.Reply{}, err
	}
	if mustBeThere && !l.There() {
		return resp.Int(0), nil
	}
	entries := c.Args[1:]
	// The length is told of a list that is made too, so it is reckoned ahead of that.
	length := l.Len() + len(entries)
	return resp.Int(length), l.push(front, entries...)
}

func (c *call) popFront() (api.Reply, error) { return c.pop(true) }

func (c *call) popBack() (api.Reply, error) { return c.pop(false) }

// pop takes one entry out at an end, or as many as a word says.
func (c *call) pop(front bool) (api.Reply, error) {
	if len(c.Args) > 1 {
		return c.popSome(front)
	}
	l, err := c.list(c.Args[0])
	if err != nil || !l.There() {
		return resp.Null(), err
	}
	return resp.Bulk(l.pop(front, 1)[0]), nil
}

func (c *call) popSome(front bool) (api.Reply, error) {
	n, err := command.Amount(c.Args[1])
	if err != nil {
		return api.Reply{}, err
	}
	l, err := c.list(c.Args[0])
	if err != nil || !l.There() {
		return command.NullArray(), err
	}
	return resp.Texts(l.pop(front, n)...), nil
}

// popOfMany takes entries out of the first of several lists that is there.
func (c *call) popOfMany() (api.Reply, error) {
	keys, front, most, err := readPop(c.Args)
	if err != nil {
		return api.Reply{}, err
	}
	for _, key := range keys {
		l, err := c.list(key)
		if err != nil {
			return api.Reply{}, err
		}
		if l.There() {
			return resp.Array(resp.Bulk(key), resp.Texts(l.pop(front, most)...)), nil
		}
	}
	return command.NullArray(), nil
}

// readPop reads how many keys there are, them, an end, and how many entries are to go at most.
func readPop(words []string) (keys []string, front bool, most int, err error) {
	n, err := command.KeyCount(words[0])
	if err != nil {
		return nil, false, 0, err
	}
	words = words[1:]
	if n >= len(words) {
		return nil, false, 0, command.Fault(api.ErrArg)
	}
	front, err = isFront(words[n])
	if err == nil {
		most, err = readCount(words[n+1:])
	}
	return words[:n], front, most, err
}

// readCount reads COUNT and its number, or no words at all, which stand for 1.
func readCount(words []string) (int, error) {
	if len(words) == 0 {
		return 1, nil
	}
	if len(words) != 2 || !command.Is(words[0], "count") {
		return 0, command.Fault(api.ErrArg)
	}
	n, ok := varint.Number(words[1])
	if !ok {
		return 0, command.Fault(api.ErrArg)
	}
	if n <= 0 {
		return 0, errCount
	}
	return n, nil
}

// isFront reads an end: LEFT is the front, RIGHT the back.
func isFront(word string) (bool, error) {
	front := command.Is(word, "left")
	if !front && !command.Is(word, "right") {
		return false, command.Fault(api.ErrArg)
	}
	return front, nil
}
