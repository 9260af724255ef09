package keys

import (
	"errors"

	"cistern/api"
	"cistern/command"
	"cistern/glob"
	"cistern/resp"
)

const notThere = -2 // what is told in the place of the time of a key that is not there

// condition tells whether a key that expires at a time, or never, is to expire at another one.
type condition func(old, at int) bool

func always(_, _ int) bool { return true }

func ifNever(old, _ int) bool { return old == command.Never }

func ifEver(old, _ int) bool { return old != command.Never }

func ifLater(old, at int) bool { return old != command.Never && at > old }

func ifSooner(old, at int) bool { return old == command.Never || at < old }

// readCondition reads the word behind a time, if there is one.
func readCondition(words ...string) (condition, error) {
	if len(words) == 0 {
		return always, nil
	}
	switch glob.Fold(words[0]) {
	case "nx":
		return ifNever, nil
	case "xx":
		return ifEver, nil
	case "gt":
		return ifLater, nil
	case "lt":
		return ifSooner, nil
	}
	return nil, errors.New("ERR Unsupported option " + words[0])
}

// expiring gives the command that lets a key expire at a time, which is told in units, from now on or from the beginning of time on.
func expiring(unit int, fromNow bool) func(c *call) (api.Reply, error) {
	return func(c *call) (api.Reply, error) {
		n, err := command.Number(c.Args[1])
		if err != nil {
			return api.Reply{}, err
		}
		holds, err := readCondition(c.Args[2:]...)
		if err != nil {
			return api.Reply{}, err
		}
		at, err := c.Due(n, unit, fromNow)
		if err != nil {
			return api.Reply{}, err
		}
		old, there := c.Space.Expiry(c.DB, c.Args[0])
		if !there || !holds(old, at) {
			return resp.Int(0), nil
		}
		c.Space.Expire(c.DB, c.Args[0], at)
		return resp.Int(1), nil
	}
}

// telling gives the command that tells in units when a key expires: how long it is till then, or the time.
func telling(unit int, fromNow bool) func(c *call) (api.Reply, error) {
	return func(c *call) (api.Reply, error) {
		at, there := c.Space.Expiry(c.DB, c.Args[0])
		switch {
		case !there:
			return resp.Int(notThere), nil
		case at == command.Never:
			return resp.Int(command.Never), nil
		case fromNow:
			at -= c.Space.Now()
		}
		return resp.Int((at + unit/2) / unit), nil
	}
}

func (c *call) persist() (api.Reply, error) {
	return command.YesOrNo(c.Space.Persist(c.DB, c.Args[0])), nil
}
