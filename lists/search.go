package lists

import (
	"errors"
	"iter"
	"math"
	"slices"

	"cistern/api"
	"cistern/command"
	"cistern/resp"
)

// atOnce is how many entries are laid down at a time to be looked at: as many as a node of a list may have.
const atOnce = 4096

var (
	errRank     = errors.New("ERR RANK can't be zero: use 1 to start from the first match, 2 from the second ... or use negative to start from the end of the list")
	errMatches  = errors.New("ERR COUNT can't be negative")
	errCompared = errors.New("ERR MAXLEN can't be negative")
)

// search is what is sought in a list, and how.
type search struct {
	entry string
	back  bool // from the last entry on
	skip  int  // so many that are found are passed over
	most  int  // so many are told at most; 0: all
	look  int  // so many entries are looked at at most; 0: all
}

// find gives the places of the entries that are sought, in the order in which they are found.
func (l list) find(s search) []int {
	var places []int
	looked := 0
	for place, entry := range l.walk(s.back) {
		if looked == s.look && s.look > 0 {
			break
		}
		looked++
		if entry != s.entry {
			continue
		}
		if s.skip > 0 {
			s.skip--
			continue
		}
		places = append(places, place)
		if len(places) == s.most {
			break
		}
	}
	return places
}

// walk yields the places and the entries, from the first or the last one on. They are laid down piece by piece, so that a search in a long list may end soon.
func (l list) walk(back bool) iter.Seq2[int, string] {
	return func(yield func(place int, entry string) bool) {
		for done := 0; done < l.Len(); done += atOnce {
			from, end := done, min(done+atOnce, l.Len())
			if back {
				from, end = l.Len()-end, l.Len()-from
			}
			entries := l.part(from, end)
			for i := range entries {
				at := i
				if back {
					at = len(entries) - 1 - i
				}
				if !yield(from+at, entries[at]) {
					return
				}
			}
		}
	}
}

func (c *call) remove() (api.Reply, error) {
	n, l, err := c.numbered()
	if err != nil {
		return api.Reply{}, err
	}
	places := l.find(search{entry: c.Args[2], back: n < 0, most: size(n)})
	if len(places) > 0 {
		l.removeAt(places...)
		l.Changed()
	}
	return resp.Int(len(places)), nil
}

// size is a number without its sign; of the least one, which has no other of that size, the greatest: no list has as many entries.
func size(n int) int {
	if n == math.MinInt {
		return math.MaxInt
	}
	return max(n, -n)
}

// removeAt takes entries out, from the last to the first, so that none that is still to go moves. Those that stand side by side go together, which is quick where they are many.
func (l list) removeAt(places ...int) {
	slices.Sort(places)
	for end := len(places); end > 0; {
		first := end - 1
		for first > 0 && places[first-1] == places[first]-1 {
			first--
		}
		l.Value.Remove(places[first], end-first)
		end = first
	}
}

func (c *call) position() (api.Reply, error) {
	s, counted, err := readSearch(c.Args[1], c.Args[2:])
	if err != nil {
		return api.Reply{}, err
	}
	l, err := c.list(c.Args[0])
	if err != nil {
		return api.Reply{}, err
	}
	places := l.find(s)
	if counted {
		return numbers(places...), nil
	}
	if len(places) == 0 {
		return resp.Null(), nil
	}
	return resp.Int(places[0]), nil
}

func numbers(list ...int) api.Reply {
	replies := make([]api.Reply, len(list))
	for i, n := range list {
		replies[i] = resp.Int(n)
	}
	return resp.Array(replies...)
}

// option is an option word in small letters and the word behind it.
type option struct {
	name, word string
}

// readSearch reads LPOS's options, and whether COUNT is among them. All words must be options ahead of the first that is read as a number.
func readSearch(entry string, words []string) (s search, counted bool, err error) {
	options, err := readOptions(words, "rank", "count", "maxlen")
	s = search{entry: entry, most: 1}
	for _, o := range options {
		if err = s.read(o); err != nil {
			return search{}, false, err
		}
		counted = counted || o.name == "count"
	}
	return s, counted, err
}

// readOptions reads options in any order, each of which is one of the names, with a word behind it.
func readOptions(words []string, names ...string) ([]option, error) {
	var options []option
	next := command.Words(words)
	for word, more := next(); more; word, more = next() {
		i := slices.IndexFunc(names, func(name string) bool { return command.Is(word, name) })
		behind, has := next()
		if i < 0 || !has {
			return nil, command.Fault(api.ErrArg)
		}
		options = append(options, option{names[i], behind})
	}
	return options, nil
}

// read takes an option over into the search.
func (s *search) read(o option) error {
	n, err := command.Number(o.word)
	switch {
	case err != nil:
		return err
	case o.name == "rank" && n == 0:
		return errRank
	case o.name == "count" && n < 0:
		return errMatches
	case o.name == "maxlen" && n < 0:
		return errCompared
	}
	switch o.name {
	case "rank":
		s.back, s.skip = n < 0, size(n)-1
	case "count":
		s.most = n
	case "maxlen":
		s.look = n
	}
	return nil
}
