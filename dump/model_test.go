package dump

import (
	"maps"
	"math/big"
	"slices"
	"strings"

	"cistern/api"
	"cistern/codec"
	"cistern/dict"
	"cistern/value"
)

// This file holds what the chapter says of the two commands, word by word: what the package answers is held against it.

// What clients are told, as the chapters say it.
const (
	unknown   = "ERR unknown command"
	syntax    = "ERR syntax error"
	tooLarge  = "ERR value is too large"
	tooMany   = "ERR too many keys"
	noNumber  = "ERR value is not an integer or out of range"
	badIdle   = "ERR Invalid IDLETIME value, must be >= 0"
	badFreq   = "ERR Invalid FREQ value, must be >= 0 and <= 255"
	badTTL    = "ERR Invalid TTL value, must be >= 0"
	busy      = "BUSYKEY Target key name already exists."
	badSum    = "ERR DUMP payload version or checksum are wrong"
	badFormat = "ERR Bad data format"
)

// The limits as DOC.md has them.
const (
	maxKeys   = 1 << 17
	maxKey    = 1 << 16
	maxNumber = 1<<53 - 1
)

// entry is what the model knows of a key. Its value is a twin of the space's: no command of this layer works on a value in its place.
type entry struct {
	v              *value.Value
	due, mark, use int
}

// shelf is a database of the model: its entries by their keys, and a dict to which layer 8's calls were made as chapter 11 says, on which the order of scans hangs alone.
type shelf struct {
	held  map[string]*entry
	order *dict.Dict[int]
}

func newShelf() *shelf { return &shelf{map[string]*entry{}, dict.New[int](0)} }

// model is an abstract machine that knows maps alone.
type model struct {
	limits           api.Thresholds
	compress         bool
	now, marks, uses int
	shelves          []*shelf
}

const databases = 3

func newModel(limits api.Thresholds, compress bool) *model {
	m := &model{limits: limits, compress: compress}
	for range databases {
		m.shelves = append(m.shelves, newShelf())
	}
	return m
}

// shelf is a database; of one that is none an empty one.
func (m *model) shelf(db int) *shelf {
	if db < 0 || db >= len(m.shelves) {
		return newShelf()
	}
	return m.shelves[db]
}

func (m *model) peek(db int, key string) *entry { return m.shelf(db).held[key] }

func (m *model) rising(db int) []string { return slices.Sorted(maps.Keys(m.shelf(db).held)) }

func (m *model) all() int {
	n := 0
	for _, s := range m.shelves {
		n += len(s.held)
	}
	return n
}

// put is keyspace.Put: the text of its Fault.
func (m *model) put(db int, key string, v *value.Value) {
	must(db >= 0 && db < len(m.shelves), syntax)
	must(len(key) <= maxKey, tooLarge)
	must(m.peek(db, key) != nil || m.all() < maxKeys, tooMany)
	m.marks++
	m.uses++
	s := m.shelf(db)
	s.held[key] = &entry{v: v, due: -1, mark: m.marks, use: m.uses}
	s.order.Set(key, 0)
}

func (m *model) drop(db int, key string) {
	s := m.shelf(db)
	if s.held[key] != nil {
		delete(s.held, key)
		s.order.Delete(key)
	}
}

func (m *model) expire(db int, key string, at int) {
	e := m.peek(db, key)
	at = min(at, maxNumber)
	switch {
	case e == nil:
	case at <= m.now:
		m.drop(db, key)
	default:
		e.due = at
		m.marks++
		e.mark = m.marks
	}
}

func (m *model) advance(n int) {
	m.now += n
	for db := range m.shelves {
		for _, key := range m.rising(db) {
			if due := m.peek(db, key).due; due >= 0 && due <= m.now {
				m.drop(db, key)
			}
		}
	}
}

// refusal is what the model gives a command up with.
type refusal string

func must(ok bool, text string) {
	if !ok {
		panic(refusal(text))
	}
}

func (m *model) do(db int, args []string) (r api.Reply) {
	defer func() {
		switch x := recover().(type) {
		case nil:
		case refusal:
			r = api.Reply{Kind: api.ReplyError, Text: string(x)}
		default:
			panic(x)
		}
	}()
	return m.run(db, args)
}

// upper are the letters a to z as great ones.
func upper(s string) string {
	b := []byte(s)
	for i, c := range b {
		if 'a' <= c && c <= 'z' {
			b[i] = c - 32
		}
	}
	return string(b)
}

// whole is the number whose text a word is.
func whole(word string) (*big.Int, bool) {
	n, ok := new(big.Int).SetString(word, 10)
	if !ok || n.String() != word || !n.IsInt64() {
		return nil, false
	}
	return n, true
}

func (m *model) run(db int, args []string) api.Reply {
	must(len(args) > 0, unknown)
	switch name := upper(args[0]); {
	case name == "DUMP" && len(args) == 2:
		return m.dump(db, args[1])
	case name == "RESTORE" && len(args) >= 4:
		return m.restore(db, args[1], args[2], args[3], args[4:])
	}
	panic(refusal(unknown))
}

func (m *model) dump(db int, key string) api.Reply {
	e := m.peek(db, key)
	if e == nil {
		return api.Reply{}
	}
	typ, body, err := codec.Encode(e.v, m.compress)
	must(err == api.OK, badFormat)
	return api.Reply{Kind: api.ReplyBulk, Text: payloadOf(typ, body)}
}

// options are read twice: first whether they are some, then whether their numbers may be.
func (m *model) options(words []string) (replace, absolute bool) {
	var numbers [][2]string
	for i := 0; i < len(words); i++ {
		switch word := upper(words[i]); word {
		case "REPLACE":
			replace = true
		case "ABSTTL":
			absolute = true
		case "IDLETIME", "FREQ":
			i++
			must(i < len(words), syntax)
			numbers = append(numbers, [2]string{word, words[i]})
		default:
			must(false, syntax)
		}
	}
	for _, pair := range numbers {
		n, ok := whole(pair[1])
		ok = ok && n.Sign() >= 0
		if pair[0] == "IDLETIME" {
			must(ok, badIdle)
			continue
		}
		must(ok && n.Cmp(big.NewInt(255)) <= 0, badFreq)
	}
	return replace, absolute
}

func (m *model) restore(db int, key, word, payload string, words []string) api.Reply {
	replace, absolute := m.options(words)
	ttl, ok := whole(word)
	must(ok, noNumber)
	must(ttl.Sign() >= 0, badTTL)
	must(m.peek(db, key) == nil || replace, busy)
	v, e := refRestore(payload, m.limits)
	must(e != api.ErrPayload, badSum)
	must(e == api.OK, badFormat)
	done := api.Reply{Kind: api.ReplyStatus, Text: "OK"}
	if ttl.Sign() == 0 {
		m.put(db, key, v)
		return done
	}
	at := ttl
	if !absolute {
		at = new(big.Int).Add(ttl, big.NewInt(int64(m.now)))
		if most := big.NewInt(maxNumber); at.Cmp(most) > 0 {
			at = most
		}
	}
	if at.Cmp(big.NewInt(int64(m.now))) <= 0 {
		m.drop(db, key)
		return done
	}
	m.put(db, key, v)
	m.expire(db, key, int(at.Int64()))
	return done
}

// rowText tells the rows of the two commands: the least and the most words, as chapter 13 has them.
const rowText = "dump 2 2\nrestore 4 -1"

func rowLines() []string { return strings.Split(rowText, "\n") }
