package dump

import (
	"errors"

	"cistern/api"
	"cistern/command"
	"cistern/keyspace"
	"cistern/resp"
	"cistern/value"
)

var (
	errBusy    = errors.New("BUSYKEY Target key name already exists.")
	errPayload = errors.New("ERR DUMP payload version or checksum are wrong")
)

// place is a database of a space.
type place struct {
	space *keyspace.Space
	db    int
}

// deed is a command over its words, which stand within it, that is to be done at a place.
type deed func(at place) (api.Reply, error)

func commands() map[string]command.Row[command.Call] {
	return map[string]command.Row[command.Call]{
		"dump":    command.Exactly(2, by(dumping)),
		"restore": command.AtLeast(4, by(restoring)),
	}
}

func asItIs(c command.Call) command.Call { return c }

// by lets a call be done by the deed that its words make.
func by(over func(words []string) deed) func(c command.Call) (api.Reply, error) {
	return func(c command.Call) (api.Reply, error) { return over(c.Args)(place{c.Space, c.DB}) }
}

// dumping is DUMP over its words: the key alone.
func dumping(words []string) deed {
	return func(at place) (api.Reply, error) {
		v, there := at.peek(words[0])
		if !there {
			return resp.Null(), nil
		}
		payload, e := Payload(v, at.space.Config().Compress)
		return resp.Bulk(payload), command.Fault(e)
	}
}

// restoring is RESTORE over its words: the key, how long it is to be there, the payload, and the options.
func restoring(words []string) deed {
	key, span, payload := words[0], words[1], words[2]
	return func(at place) (api.Reply, error) {
		o, err := readOptions(words[3:])
		if err != nil {
			return api.Reply{}, err
		}
		ttl, err := readTTL(span)
		if err != nil {
			return api.Reply{}, err
		}
		if _, there := at.peek(key); there && !o.replace {
			return api.Reply{}, errBusy
		}
		v, err := at.valueOf(payload)
		if err != nil {
			return api.Reply{}, err
		}
		return resp.Status("OK"), at.put(key, v, o.due(ttl, at.space.Now()))
	}
}

// peek gives a key's value, if it is there; the key is not used by that.
func (at place) peek(key string) (*value.Value, bool) { return at.space.Peek(at.db, key) }

// valueOf gives the value of a payload, kept as the space keeps values.
func (at place) valueOf(payload string) (*value.Value, error) {
	v, e := Restore(payload, at.space.Config().Limits)
	switch e {
	case api.OK:
		return v, nil
	case api.ErrPayload:
		return nil, errPayload
	}
	return nil, command.Fault(api.ErrValue)
}

// put lets a key have a value until a time, or for good. If that time has come, the key is not there any more.
func (at place) put(key string, v *value.Value, due int) error {
	if due != command.Never && due <= at.space.Now() {
		at.space.Drop(at.db, key)
		return nil
	}
	e := at.space.Put(at.db, key, v)
	if e == api.OK && due != command.Never {
		at.space.Expire(at.db, key, due)
	}
	return command.Fault(e)
}
