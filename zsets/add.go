package zsets

import (
	"errors"

	"cistern/api"
	"cistern/command"
	"cistern/resp"
	"cistern/varint"
)

var (
	errNewAndOld = errors.New("ERR XX and NX options at the same time are not compatible")
	errCompared  = errors.New("ERR GT, LT, and/or NX options at the same time are not compatible")
	errIncrement = errors.New("ERR INCR option supports a single increment-element pair")
)

// rules are the options of ZADD by their words: which pairs are done, how, and what is told of them.
type rules struct{ nx, xx, gt, lt, ch, incr bool }

func (r *rules) options() command.Options {
	return command.Options{
		"nx": command.Flag(&r.nx), "xx": command.Flag(&r.xx),
		"gt": command.Flag(&r.gt), "lt": command.Flag(&r.lt),
		"ch": command.Flag(&r.ch), "incr": command.Flag(&r.incr),
	}
}

// readRules reads the rules, and gives the words of the pairs behind them.
func readRules(words []string) (rules, []string, error) {
	var r rules
	pairs, err := r.options().Lead(words)
	if err == nil {
		err = r.check(len(pairs))
	}
	return r, pairs, err
}

// check refuses rules that don't go together, and so many words of pairs with which they don't.
func (r rules) check(words int) error {
	switch {
	case words == 0 || words%2 != 0:
		return command.Fault(api.ErrArg)
	case r.nx && r.xx:
		return errNewAndOld
	case r.gt && r.lt, r.gt && r.nx, r.lt && r.nx:
		return errCompared
	case r.incr && words > 2:
		return errIncrement
	}
	return nil
}

// outcome is the score that a member gets by a pair with a score; false, if the pair is not done.
func (r rules) outcome(old int, there bool, score int) (int, bool, error) {
	if !there {
		return score, !r.xx, nil
	}
	if r.nx {
		return 0, false, nil
	}
	if r.incr {
		var err error
		if score, err = sum(old, score, 1); err != nil {
			return 0, false, err
		}
	}
	if r.gt && score <= old || r.lt && score >= old {
		return 0, false, nil
	}
	return score, true, nil
}

func (c *call) add() (api.Reply, error) {
	r, words, err := readRules(c.Args[1:])
	if err != nil {
		return api.Reply{}, err
	}
	pairs, err := readPairs(words)
	if err != nil {
		return api.Reply{}, err
	}
	return c.rate(r, pairs...)
}

func (c *call) increase() (api.Reply, error) {
	pairs, err := readPairs(c.Args[1:])
	if err != nil {
		return api.Reply{}, err
	}
	return c.rate(rules{incr: true}, pairs...)
}

// readPairs reads scores, each with its member behind it.
func readPairs(words []string) ([]api.Scored, error) {
	pairs := make([]api.Scored, 0, len(words)/2)
	for i := 0; i < len(words); i += 2 {
		score, err := readScore(words[i])
		if err != nil {
			return nil, err
		}
		pairs = append(pairs, api.Scored{Member: words[i+1], Score: score})
	}
	return pairs, nil
}

// rate does pairs by rules. All are weighed ahead of the first that is done, so that an error changes nothing.
func (c *call) rate(r rules, pairs ...api.Scored) (api.Reply, error) {
	z, err := c.zset(c.Args[0])
	if err != nil {
		return api.Reply{}, err
	}
	s := scale{rules: r, find: z.finder(len(pairs)), given: map[string]int{}}
	for _, pair := range pairs {
		if err := s.weigh(pair); err != nil {
			return api.Reply{}, err
		}
	}
	return s.reply(), z.put(s.fresh+s.moved > 0, s.done...)
}

// scale weighs one pair after the other: what each does where those ahead of it are done.
type scale struct {
	rules rules
	find  func(member string) (int, bool)
	given map[string]int // the scores by the pairs that are done
	done  []api.Scored
	fresh int // pairs by which a member comes
	moved int // pairs by which one that is there gets another score
}

func (s *scale) weigh(pair api.Scored) error {
	old, there := s.given[pair.Member]
	if !there {
		old, there = s.find(pair.Member)
	}
	score, done, err := s.rules.outcome(old, there, pair.Score)
	if err != nil || !done {
		return err
	}
	s.given[pair.Member] = score
	s.done = append(s.done, api.Scored{Member: pair.Member, Score: score})
	switch {
	case !there:
		s.fresh++
	case score != old:
		s.moved++
	}
	return nil
}

// reply is what is told: with INCR the score of the only pair, or null, if it is not done; else how many pairs did something.
func (s *scale) reply() api.Reply {
	switch {
	case s.rules.incr && len(s.done) == 0:
		return resp.Null()
	case s.rules.incr:
		return resp.Bulk(varint.Digits(s.done[0].Score))
	case s.rules.ch:
		return resp.Int(s.fresh + s.moved)
	}
	return resp.Int(s.fresh)
}

func (c *call) remove() (api.Reply, error) {
	z, err := c.zset(c.Args[0])
	if err != nil {
		return api.Reply{}, err
	}
	return resp.Int(z.drop(c.Args[1:]...)), nil
}
