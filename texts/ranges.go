package texts

import (
	"errors"

	"cistern/api"
	"cistern/command"
	"cistern/glob"
	"cistern/resp"
)

var (
	errOffset = errors.New("ERR offset is out of range")
	errSize   = errors.New("ERR string exceeds maximum allowed size (512KB)")
)

// stretch is what words say of places: from where to where, of bytes or of bits. At first it is all of them.
type stretch struct {
	from, to int
	bits     bool
}

// readStretch reads up to three words: from where, to where, bytes or bits.
func readStretch(list []string) (stretch, error) {
	s := stretch{from: 0, to: -1}
	next := command.Words(list)
	from, hasFrom := next()
	to, hasTo := next()
	if unit, more := next(); more {
		unit = glob.Fold(unit)
		if unit != "byte" && unit != "bit" {
			return stretch{}, command.Fault(api.ErrArg)
		}
		s.bits = unit == "bit"
	}
	var err error
	if hasFrom {
		s.from, err = command.Number(from)
	}
	if hasTo && err == nil {
		s.to, err = command.Number(to)
	}
	return s, err
}

// stretchOf reads a stretch's words and, if they may be, looks at the key.
func (c *call) stretchOf(list []string) (stretch, held, error) {
	s, err := readStretch(list)
	if err != nil {
		return stretch{}, held{}, err
	}
	h, err := c.lookText(c.Args[0])
	return s, h, err
}

func length(c *call) (api.Reply, error) {
	h, err := c.lookText(c.Args[0])
	return resp.Int(h.len()), err
}

func appendText(c *call) (api.Reply, error) {
	h, err := c.lookText(c.Args[0])
	if err != nil {
		return api.Reply{}, err
	}
	size := h.len() + len(c.Args[1])
	if h.there() && size > api.MaxElement {
		return api.Reply{}, errSize
	}
	return resp.Int(size), c.workOn(h, h.text()+c.Args[1])
}

func getRange(c *call) (api.Reply, error) {
	s, h, err := c.stretchOf(c.Args[1:])
	if err != nil {
		return api.Reply{}, err
	}
	text := h.text()
	from, end := command.Places(s.from, s.to, len(text))
	return resp.Bulk(text[from:end]), nil
}

func setRange(c *call) (api.Reply, error) {
	at, err := command.Number(c.Args[1])
	if err != nil {
		return api.Reply{}, err
	}
	if at < 0 {
		return api.Reply{}, errOffset
	}
	h, err := c.lookText(c.Args[0])
	if err != nil {
		return api.Reply{}, err
	}
	part := c.Args[2]
	if part == "" {
		return resp.Int(h.len()), nil
	}
	if at > api.MaxElement-len(part) {
		return api.Reply{}, errSize
	}
	text := filled(h.text(), at+len(part))
	copy(text[at:], part)
	return resp.Int(len(text)), c.workOn(h, string(text))
}

// filled is a text's bytes, with zero bytes behind them up to a size.
func filled(text string, size int) []byte {
	b := make([]byte, max(size, len(text)))
	copy(b, text)
	return b
}
