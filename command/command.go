// Package command holds what the layers of commands (14 to 19) have in common: how a command is found by its name, how it looks at keys, how its words are read, and what is told of an error.
package command

import (
	"errors"
	"maps"
	"slices"

	"cistern/api"
	"cistern/glob"
	"cistern/keyspace"
	"cistern/resp"
)

// anyNumber is the most words of a command that takes any number of them.
const anyNumber = -1

var errUnknown = errors.New("ERR unknown command")

// Call is a command that is to be done: its name in small letters, the words behind it, and where.
type Call struct {
	Space *keyspace.Space
	DB    int
	Name  string
	Args  []string
}

// Row is what is known of a name: how many words the command takes, its name among them, and what does it. C is what a layer makes of a call. An error is the text that a client is told.
type Row[C any] struct {
	least, most int
	do          func(c C) (api.Reply, error)
}

// Exactly is the row of a command that takes just so many words.
func Exactly[C any](words int, do func(c C) (api.Reply, error)) Row[C] {
	return Row[C]{words, words, do}
}

// Between is the row of a command that takes so many words at least, and at most.
func Between[C any](least, most int, do func(c C) (api.Reply, error)) Row[C] {
	return Row[C]{least, most, do}
}

// AtLeast is the row of a command that takes so many words, or any number more.
func AtLeast[C any](words int, do func(c C) (api.Reply, error)) Row[C] {
	return Row[C]{words, anyNumber, do}
}

func (r Row[C]) takes(n int) bool {
	return n >= r.least && (r.most == anyNumber || n <= r.most)
}

// Do does the command that words are, by the rows of a layer; own makes the layer's own call of one.
func Do[C any](rows map[string]Row[C], own func(c Call) C, sp *keyspace.Space, db int, words []string) api.Reply {
	reply, err := perform(rows, own, Call{Space: sp, DB: db, Args: words})
	if err != nil {
		return resp.Error(err.Error())
	}
	return reply
}

// perform does a call of which the name still stands ahead of the other words.
func perform[C any](rows map[string]Row[C], own func(c Call) C, c Call) (api.Reply, error) {
	if len(c.Args) == 0 {
		return api.Reply{}, errUnknown
	}
	c.Name = glob.Fold(c.Args[0])
	row, ok := rows[c.Name]
	if !ok || !row.takes(len(c.Args)) {
		return api.Reply{}, errUnknown
	}
	c.Args = c.Args[1:]
	return row.do(own(c))
}

// Names gives the names of a layer's rows, rising.
func Names[C any](rows map[string]Row[C]) []string { return slices.Sorted(maps.Keys(rows)) }
