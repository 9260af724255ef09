package command

import (
	"errors"

	"cistern/api"
)

// Never is the time of a key that does not expire.
const Never = -1

// The units in which times are told, in milliseconds.
const (
	Second      = 1000
	Millisecond = 1
)

// Due is the time that so many units mean, from now on or from the beginning of time on. Where a time would be out of bounds, also one on the way, that is an error.
func (c *Call) Due(n, unit int, fromNow bool) (int, error) {
	start := 0
	if fromNow {
		start = c.Space.Now()
	}
	if n < -api.MaxNumber/unit || n > (api.MaxNumber-start)/unit {
		return 0, c.BadTime()
	}
	return start + n*unit, nil
}

// BadTime refuses a time by which no key may expire.
func (c *Call) BadTime() error {
	return errors.New("ERR invalid expire time in '" + c.Name + "' command")
}
