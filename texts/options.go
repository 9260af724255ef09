package texts

import (
	"slices"

	"cistern/api"
	"cistern/command"
	"cistern/glob"
)

// The option words, in small letters.
const (
	seconds        = "ex"
	milliseconds   = "px"
	secondsAt      = "exat"
	millisecondsAt = "pxat"
	keepExpiry     = "keepttl"
	dropExpiry     = "persist"
	onlyNew        = "nx"
	onlyThere      = "xx"
	tellOld        = "get"
)

// options are the option words that were read, each at its place: those of one place exclude each other, and themselves.
type options struct {
	when   string // onlyNew, onlyThere
	tell   string // tellOld
	expiry string // all the others
	span   string // the word behind an expiry option
}

// readOptions reads option words in any order: expiry options, and of the others those that are named.
func readOptions(list []string, others ...string) (options, error) {
	var o options
	next := command.Words(list)
	for word, more := next(); more; word, more = next() {
		word = glob.Fold(word)
		if !isExpiry(word) && !slices.Contains(others, word) {
			return options{}, command.Fault(api.ErrArg)
		}
		place := o.place(word)
		if *place != "" {
			return options{}, command.Fault(api.ErrArg)
		}
		*place = word
		if !isExpiry(word) {
			continue
		}
		if o.span, more = next(); !more {
			return options{}, command.Fault(api.ErrArg)
		}
	}
	return o, nil
}

func isExpiry(word string) bool {
	switch word {
	case seconds, milliseconds, secondsAt, millisecondsAt:
		return true
	}
	return false
}

func (o *options) place(word string) *string {
	switch word {
	case onlyNew, onlyThere:
		return &o.when
	case tellOld:
		return &o.tell
	}
	return &o.expiry
}

// due is the time that the options' expiry option means; never, if there is none.
func (c *call) due(o options) (int, error) {
	if !isExpiry(o.expiry) {
		return command.Never, nil
	}
	return c.dueBy(o.expiry, o.span)
}

// dueBy is the time that an expiry option means by the word behind it.
func (c *call) dueBy(option, word string) (int, error) {
	n, err := command.Number(word)
	if err != nil {
		return 0, err
	}
	if n <= 0 {
		return 0, c.BadTime()
	}
	unit := command.Millisecond
	if option == seconds || option == secondsAt {
		unit = command.Second
	}
	return c.Due(n, unit, option == seconds || option == milliseconds)
}

// writeUntil writes a string that expires at a time, or never.
func (c *call) writeUntil(key, text string, at int) error {
	if err := c.write(key, text); err != nil {
		return err
	}
	if at != command.Never {
		c.Space.Expire(c.DB, key, at)
	}
	return nil
}
