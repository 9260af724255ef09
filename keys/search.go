package keys

import (
	"slices"

	"cistern/api"
	"cistern/command"
	"cistern/glob"
	"cistern/resp"
)

func (c *call) match() (api.Reply, error) {
	pattern, err := command.ReadPattern(c.Args[0])
	if err != nil {
		return api.Reply{}, err
	}
	return command.Listed(api.ReplyArray, pattern.Matching(c.Space.Keys(c.DB))...), nil
}

// scanning is what a step of a scan of keys is asked for.
type scanning struct {
	command.Scan
	kind []string // the word for the kind of the keys that are told; none: of any
}

func (c *call) scan() (api.Reply, error) {
	var asked scanning
	var err error
	own := command.Options{"type": command.KeepWords(1, &asked.kind)}
	asked.Scan, err = command.ReadScanWith(own, c.Args[0], c.Args[1:]...)
	if err != nil {
		return api.Reply{}, err
	}
	keys, next := c.Space.Scan(c.DB, asked.Cursor, asked.Count)
	return command.Scanned(next, c.ofKind(asked.Matching(keys), asked.kind...)...), nil
}

// ofKind leaves of keys those whose kind a word says, if there is one.
func (c *call) ofKind(keys []string, words ...string) []string {
	if len(words) == 0 {
		return keys
	}
	kind := glob.Fold(words[0])
	return slices.DeleteFunc(keys, func(key string) bool { return c.kindOf(key) != kind })
}

func (c *call) pick() (api.Reply, error) {
	key, some := c.Space.Pick(c.DB, c.Space.Random(c.Space.Len(c.DB)))
	if !some {
		return resp.Null(), nil
	}
	return resp.Bulk(key), nil
}
