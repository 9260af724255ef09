package hashes

import (
	"cistern/api"
	"cistern/command"
	"cistern/resp"
)

// sample tells one name by chance, or as many as a word says.
func (c *call) sample() (api.Reply, error) {
	if len(c.Args) > 1 {
		return c.sampleSome()
	}
	h, err := c.hash()
	if err != nil || !h.There() {
		return resp.Null(), err
	}
	return resp.Bulk(h.fields()[c.Space.Random(h.Len())].Name), nil
}

func (c *call) sampleSome() (api.Reply, error) {
	n, err := command.SampleSize(c.Args[1])
	if err != nil {
		return api.Reply{}, err
	}
	take, err := readTake(c.Args[2:]...)
	if err != nil {
		return api.Reply{}, err
	}
	h, err := c.hash()
	if err != nil {
		return api.Reply{}, err
	}
	picked := command.At(h.fields(), c.Sample(n, h.Len())...)
	return command.Listed(api.ReplyArray, take(picked...)...), nil
}

// readTake reads what is to be told of fields: without a word their names, with WITHVALUES their values too.
func readTake(words ...string) (func(fields ...api.Field) []string, error) {
	if len(words) == 0 {
		return namesOf, nil
	}
	if !command.Is(words[0], "withvalues") {
		return nil, command.Fault(api.ErrArg)
	}
	return inTurns, nil
}
