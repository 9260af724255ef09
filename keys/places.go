package keys

import (
	"errors"

	"cistern/api"
	"cistern/command"
	"cistern/resp"
)

var errSame = errors.New("ERR source and destination objects are the same")

// place is where a value stands.
type place struct {
	db  int
	key string
}

// copying is what is said of a copy: where it comes, and whether also where something is.
type copying struct {
	place
	replace bool
}

func (c *call) readCopying() (copying, error) {
	to := copying{place: place{c.DB, c.Args[1]}}
	options := command.Options{
		"db": command.TakeWord(func(word string) (err error) {
			to.db, err = c.database(word)
			return err
		}),
		"replace": command.Flag(&to.replace),
	}
	err := options.Read(c.Args[2:])
	return to, err
}

func (c *call) duplicate() (api.Reply, error) {
	to, err := c.readCopying()
	if err != nil {
		return api.Reply{}, err
	}
	from := place{c.DB, c.Args[0]}
	if to.place == from {
		return api.Reply{}, errSame
	}
	v := c.Look(from.key)
	if v == nil {
		return resp.Int(0), nil
	}
	if _, taken := c.Space.Peek(to.db, to.key); taken && !to.replace {
		return resp.Int(0), nil
	}
	if e := c.Space.Put(to.db, to.key, v.Clone()); e != api.OK {
		return api.Reply{}, command.Fault(e)
	}
	if at, _ := c.Space.Expiry(from.db, from.key); at != command.Never {
		c.Space.Expire(to.db, to.key, at)
	}
	return resp.Int(1), nil
}

func (c *call) move() (api.Reply, error) {
	to, err := c.database(c.Args[1])
	if err != nil {
		return api.Reply{}, err
	}
	if to == c.DB {
		return api.Reply{}, errSame
	}
	return command.YesOrNo(c.Space.Move(c.DB, c.Args[0], to) == api.OK), nil
}

func (c *call) rename() (api.Reply, error) {
	if !c.there(c.Args[0]) {
		return api.Reply{}, command.Fault(api.ErrNone)
	}
	return resp.Status("OK"), c.renamed()
}

func (c *call) renameNew() (api.Reply, error) {
	if !c.there(c.Args[0]) {
		return api.Reply{}, command.Fault(api.ErrNone)
	}
	if c.there(c.Args[1]) {
		return resp.Int(0), nil
	}
	return resp.Int(1), c.renamed()
}

// renamed gives the value of the first word the second one as its key.
func (c *call) renamed() error {
	return command.Fault(c.Space.Rename(c.DB, c.Args[0], c.Args[1]))
}
