package dump

import (
	"errors"
	"math"

	"cistern/api"
	"cistern/command"
	"cistern/varint"
)

const (
	anyNumber = math.MaxInt // the most that a number of 64 bits can be
	mostUses  = 255         // the most that FREQ may tell
)

var (
	errIdle = errors.New("ERR Invalid IDLETIME value, must be >= 0")
	errUses = errors.New("ERR Invalid FREQ value, must be >= 0 and <= 255")
	errTTL  = errors.New("ERR Invalid TTL value, must be >= 0")
)

// options are what the words behind a payload say.
type options struct {
	replace  bool
	absolute bool  // the time to live is a time
	refused  error // what is told of the first number that may not be; nil, if each may
}

// readOptions reads option words. That one of them is none is told ahead of what is wrong with a number.
func readOptions(words []string) (options, error) {
	var o options
	known := command.Options{
		"replace":  command.Flag(&o.replace),
		"absttl":   command.Flag(&o.absolute),
		"idletime": o.number(anyNumber, errIdle),
		"freq":     o.number(mostUses, errUses),
	}
	err := known.Read(words)
	if err == nil {
		err = o.refused
	}
	return o, err
}

// number is an option with a number behind it, of which nothing is kept: how keys are used is not told by clients.
func (o *options) number(most int, refusal error) command.Option {
	return command.TakeWord(func(word string) error {
		n, ok := varint.Number(word)
		if o.refused == nil && (!ok || n < 0 || n > most) {
			o.refused = refusal
		}
		return nil
	})
}

// readTTL reads how long a key is to be there.
func readTTL(word string) (int, error) {
	n, err := command.Number(word)
	if err == nil && n < 0 {
		err = errTTL
	}
	return n, err
}

// due is the time from which a key is not to be there, at the time that it is now. A time to live of 0 means for good.
func (o options) due(ttl, now int) int {
	switch {
	case ttl == 0:
		return command.Never
	case o.absolute:
		return ttl
	}
	return now + min(ttl, api.MaxNumber-now)
}
