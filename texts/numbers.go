package texts

import (
	"errors"
	"math"

	"cistern/api"
	"cistern/command"
	"cistern/resp"
	"cistern/varint"
)

var errDecrement = errors.New("ERR decrement would overflow")

func increase(c *call) (api.Reply, error) { return c.add(1) }

func decrease(c *call) (api.Reply, error) { return c.add(-1) }

func increaseBy(c *call) (api.Reply, error) {
	n, err := command.Number(c.Args[1])
	if err != nil {
		return api.Reply{}, err
	}
	return c.add(n)
}

func decreaseBy(c *call) (api.Reply, error) {
	n, err := command.Number(c.Args[1])
	if err != nil {
		return api.Reply{}, err
	}
	if n == math.MinInt {
		// Turned round it is no number of 64 bits.
		return api.Reply{}, errDecrement
	}
	return c.add(-n)
}

// add adds to the number that the string is.
func (c *call) add(n int) (api.Reply, error) {
	h, err := c.lookText(c.Args[0])
	if err != nil {
		return api.Reply{}, err
	}
	was, err := h.number()
	if err != nil {
		return api.Reply{}, err
	}
	sum, err := command.Sum(was, n)
	if err != nil {
		return api.Reply{}, err
	}
	return resp.Int(sum), c.workOn(h, varint.Digits(sum))
}

// number is the number that the string is; 0, if the key is not there.
func (h held) number() (int, error) {
	if !h.there() {
		return 0, nil
	}
	return command.Number(h.text())
}
