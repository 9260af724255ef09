package texts

import (
	"errors"

	"cistern/api"
	"cistern/command"
	"cistern/glob"
	"cistern/resp"
)

// not is the only word that works on one string alone.
const not = "not"

var errNot = errors.New("ERR BITOP NOT must be called with a single source key.")

func bitOp(c *call) (api.Reply, error) {
	word, dest, keys := glob.Fold(c.Args[0]), c.Args[1], c.Args[2:]
	pair, ok := pairing(word)
	if !ok {
		return api.Reply{}, command.Fault(api.ErrArg)
	}
	if word == not && len(keys) > 1 {
		return api.Reply{}, errNot
	}
	text, err := c.join(keys, pair)
	if err != nil {
		return api.Reply{}, err
	}
	if word == not {
		flip(text)
	}
	if len(text) == 0 {
		c.Space.Drop(c.DB, dest)
		return resp.Int(0), nil
	}
	return resp.Int(len(text)), c.write(dest, string(text))
}

// pairing is what a word makes of two bytes, if it is one; NOT has no two.
func pairing(word string) (func(a, b byte) byte, bool) {
	switch word {
	case "and":
		return func(a, b byte) byte { return a & b }, true
	case "or":
		return func(a, b byte) byte { return a | b }, true
	case "xor":
		return func(a, b byte) byte { return a ^ b }, true
	case not:
		return nil, true
	}
	return nil, false
}

// join makes one text of the keys' strings. Each is joined to those ahead of it at once, so that never more than two are in memory.
func (c *call) join(keys []string, pair func(a, b byte) byte) ([]byte, error) {
	var text []byte
	for i, key := range keys {
		h, err := c.lookText(key)
		if err != nil {
			return nil, err
		}
		if i == 0 {
			text = []byte(h.text())
			continue
		}
		text = joined(text, h.text(), pair)
	}
	return text, nil
}

// joined is as long as the longer of two texts; the other one counts as zero behind its end.
func joined(text []byte, other string, pair func(a, b byte) byte) []byte {
	all := filled(other, len(text))
	for i := range all {
		var a byte
		if i < len(text) {
			a = text[i]
		}
		all[i] = pair(a, all[i])
	}
	return all
}

func flip(text []byte) {
	for i := range text {
		text[i] = ^text[i]
	}
}
