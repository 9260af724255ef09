package keys

import (
	"errors"
	"slices"

	"cistern/api"
	"cistern/command"
	"cistern/resp"
	"cistern/value"
	"cistern/varint"
)

var errNumbers = errors.New("ERR One or more scores can't be converted into double")

// order says how texts are sorted: by bytes or by number, rising or falling.
type order struct{ byBytes, falling bool }

// sorting is what the options of SORT say.
type sorting struct {
	order
	window
	dest []string // the key under which what is sorted is stored; none: it is told
}

// window is how much of what is sorted is left out ahead, and how much is left at most; below 0: nothing, all.
type window struct{ skip, most int }

func readSorting(words []string) (sorting, error) {
	s := sorting{window: window{0, -1}}
	var limit []string
	options := command.Options{
		"asc":   command.Choice(&s.falling, false),
		"desc":  command.Choice(&s.falling, true),
		"alpha": command.Flag(&s.byBytes),
		"limit": command.KeepWords(2, &limit),
		"store": command.KeepWords(1, &s.dest),
	}
	err := options.Read(words)
	if err == nil && limit != nil {
		s.skip, s.most, err = command.Both(command.Number, limit[0], limit[1])
	}
	return s, err
}

func (c *call) sort() (api.Reply, error) {
	s, err := readSorting(c.Args[1:])
	if err != nil {
		return api.Reply{}, err
	}
	entries, err := c.entries(c.Args[0])
	if err != nil {
		return api.Reply{}, err
	}
	sorted, err := s.sorted(entries)
	if err != nil {
		return api.Reply{}, err
	}
	sorted = s.cut(sorted)
	if s.dest == nil {
		return command.Listed(api.ReplyArray, sorted...), nil
	}
	return resp.Int(len(sorted)), c.store(s.dest[0], sorted...)
}

// entries gives what can be sorted of a key's value: the entries of a list, the members of a set or a sorted set.
func (c *call) entries(key string) ([]string, error) {
	v := c.Look(key)
	if v == nil {
		return nil, nil
	}
	switch v.Kind() {
	case api.KindList:
		entries, e := v.Range(0, v.Len())
		return entries, command.Fault(e)
	case api.KindSet:
		members, e := v.Members()
		return members, command.Fault(e)
	case api.KindZset:
		members, e := v.ByRank(0, v.Len(), false)
		return command.NamesOf(members...), command.Fault(e)
	}
	return nil, command.Fault(api.ErrKind)
}

// sorted gives a copy of texts in order; the texts stay as they stand.
func (o order) sorted(texts []string) ([]string, error) {
	list := make([]string, len(texts))
	copy(list, texts)
	if o.byBytes {
		slices.Sort(list)
	} else if err := sortNumbers(list); err != nil {
		return nil, err
	}
	if o.falling {
		slices.Reverse(list)
	}
	return list, nil
}

// sortNumbers sorts texts that must all be numbers' texts. A number has just one text, so that the sorted numbers tell theirs.
func sortNumbers(texts []string) error {
	numbers := make([]int, len(texts))
	for i, text := range texts {
		n, ok := varint.Number(text)
		if !ok {
			return errNumbers
		}
		numbers[i] = n
	}
	slices.Sort(numbers)
	for i, n := range numbers {
		texts[i] = varint.Digits(n)
	}
	return nil
}

// cut gives the part of a list that lies within the window.
func (w window) cut(list []string) []string {
	list = list[min(max(w.skip, 0), len(list)):]
	if w.most < 0 {
		return list
	}
	return list[:min(w.most, len(list))]
}

// store makes a key a list of entries; it goes, if there are none.
func (c *call) store(dest string, entries ...string) error {
	if len(entries) == 0 {
		c.Space.Drop(c.DB, dest)
		return nil
	}
	return c.Make(api.KindList, dest, func(v *value.Value) api.Errno { return v.Push(false, entries...) })
}
