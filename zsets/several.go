package zsets

import (
	"cmp"
	"errors"
	"slices"

	"cistern/api"
	"cistern/command"
	"cistern/glob"
	"cistern/resp"
)

var errWeight = errors.New("ERR weight value is not a valid score")

// several is what is said of several keys, and how the scores that a member has under them are put together.
type several struct {
	keys       []string
	weights    []int // of each key
	join       join
	withScores bool
}

func (s *several) options() command.Options {
	return command.Options{"weights": s.takeWeights, "aggregate": command.TakeWord(s.takeJoin), "withscores": command.Flag(&s.withScores)}
}

func (s *several) takeWeights(behind []string) ([]string, error) {
	for i := range s.weights {
		if i == len(behind) {
			return nil, command.Fault(api.ErrArg)
		}
		weight, ok := glob.Score(behind[i])
		if !ok {
			return nil, errWeight
		}
		s.weights[i] = weight
	}
	return behind[len(s.weights):], nil
}

func (s *several) takeJoin(word string) error {
	by, ok := map[string]join{"sum": sum, "min": lesser, "max": greater}[glob.Fold(word)]
	if !ok {
		return command.Fault(api.ErrArg)
	}
	s.join = by
	return nil
}

// readSeveral reads keys behind the word that counts them, and options, of which those with these words may stand.
func readSeveral(words []string, known ...string) (several, error) {
	keys, behind, err := command.CountedKeys(words)
	if err != nil {
		return several{}, err
	}
	s := several{keys: keys, weights: slices.Repeat([]int{1}, len(keys)), join: sum}
	err = s.options().Only(known...).Read(behind)
	return s, err
}

// sources looks at keys, in their order, up to the first that is of the wrong kind.
func (c *call) sources(keys ...string) ([]zset, error) {
	list := make([]zset, len(keys))
	for i, key := range keys {
		var err error
		if list[i], err = c.zsetOrSet(key); err != nil {
			return nil, err
		}
	}
	return list, nil
}

// maker makes one sorted set of several, which stand under the keys that are said.
type maker func(s several, sources ...zset) ([]api.Scored, error)

// together gives what a maker makes of the keys that words say, and whether scores are asked for.
func (c *call) together(of maker, words []string, known ...string) ([]api.Scored, bool, error) {
	s, err := readSeveral(words, known...)
	if err != nil {
		return nil, false, err
	}
	sources, err := c.sources(s.keys...)
	if err != nil {
		return nil, false, err
	}
	members, err := of(s, sources...)
	return members, s.withScores, err
}

// telling gives the command that tells a sorted set of several keys.
func telling(of maker, known ...string) func(c *call) (api.Reply, error) {
	return func(c *call) (api.Reply, error) {
		members, withScores, err := c.together(of, c.Args, known...)
		if err != nil {
			return api.Reply{}, err
		}
		return tellMembers(withScores, members...), nil
	}
}

// storing gives the command that makes its first key a sorted set of the several others.
func storing(of maker, known ...string) func(c *call) (api.Reply, error) {
	return func(c *call) (api.Reply, error) {
		members, _, err := c.together(of, c.Args[1:], known...)
		if err != nil {
			return api.Reply{}, err
		}
		return c.store(c.Args[0], members...)
	}
}

// countCommon counts what ZINTER would tell.
func (c *call) countCommon() (api.Reply, error) {
	keys, behind, err := command.CountedKeys(c.Args)
	if err != nil {
		return api.Reply{}, err
	}
	most, err := command.Limit(behind...)
	if err != nil {
		return api.Reply{}, err
	}
	sources, err := c.sources(keys...)
	if err != nil {
		return api.Reply{}, err
	}
	n := len(common(sources...))
	if most > 0 {
		n = min(n, most)
	}
	return resp.Int(n), nil
}

// union makes one of the members that any has.
func union(s several, sources ...zset) ([]api.Scored, error) {
	return s.joined(zset.all, sources...)
}

// intersection makes one of the members that all have.
func intersection(s several, sources ...zset) ([]api.Scored, error) {
	members := common(sources...)
	return s.joined(func(z zset) []api.Scored { return z.scored(members...) }, sources...)
}

// difference makes one of the members that the first has and no other, with their scores there.
func difference(_ several, sources ...zset) ([]api.Scored, error) {
	scores := map[string]int{}
	for _, m := range sources[0].all() {
		scores[m.Member] = m.Score
	}
	for _, z := range once(sources[1:]...) {
		for _, m := range z.all() {
			delete(scores, m.Member)
		}
	}
	return inOrder(scores), nil
}

// common gives the members that all have. It begins with the smallest one, so that no more members are sought than all have together.
func common(sources ...zset) []string {
	smallest := slices.MinFunc(sources, func(a, b zset) int { return cmp.Compare(a.Len(), b.Len()) })
	members := command.NamesOf(smallest.all()...)
	for _, z := range once(sources...) {
		if z.Key == smallest.Key {
			continue
		}
		find := z.finder(len(members))
		members = slices.DeleteFunc(members, func(member string) bool {
			_, found := find(member)
			return !found
		})
	}
	return members
}

// once leaves out those under keys that came already.
func once(sources ...zset) []zset {
	return command.Once(func(z zset) string { return z.Key }, sources...)
}

// joined makes one of the members that a function takes of each, in order: scores times weights, put together in the order of the keys.
func (s several) joined(take func(z zset) []api.Scored, sources ...zset) ([]api.Scored, error) {
	scores := map[string]int{}
	taken := map[string][]api.Scored{} // by their keys, as one may stand many times
	for from := 0; from < len(sources); {
		z := sources[from]
		members, again := taken[z.Key]
		if !again {
			members = take(z)
			taken[z.Key] = members
		}
		times := s.repeated(from)
		for _, m := range members {
			if err := s.joinTo(scores, m, s.weights[from], times); err != nil {
				return nil, err
			}
		}
		from += times
	}
	return inOrder(scores), nil
}

// repeated is how often a key stands with the same weight, from a place on, before another one comes.
func (s several) repeated(from int) int {
	end := from + 1
	for end < len(s.keys) && s.keys[end] == s.keys[from] && s.weights[end] == s.weights[from] {
		end++
	}
	return end - from
}

// joinTo puts a member's score, times a weight, so many times together with the score that the member has already, if it has one.
func (s several) joinTo(scores map[string]int, m api.Scored, weight, times int) error {
	n, err := product(m.Score, weight)
	if err != nil {
		return err
	}
	score, there := scores[m.Member]
	if !there {
		score, times = n, times-1
	}
	if times > 0 {
		score, err = s.join(score, n, times)
	}
	scores[m.Member] = score
	return err
}
