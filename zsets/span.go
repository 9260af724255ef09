package zsets

import (
	"errors"

	"cistern/api"
	"cistern/command"
	"cistern/resp"
)

var (
	errLimit     = errors.New("ERR syntax error, LIMIT is only supported in combination with either BYSCORE or BYLEX")
	errLexScores = errors.New("ERR syntax error, WITHSCORES not supported in combination with BYLEX")
)

// span is what the options of ZRANGE, or the name of one of its kin, say of a range.
type span struct {
	byScore, byLex bool // if neither: by rank
	back           bool
	withScores     bool
	limit          []string // S and N; none without LIMIT
}

func (s *span) options() command.Options {
	return command.Options{
		"byscore": command.Flag(&s.byScore), "bylex": command.Flag(&s.byLex),
		"rev": command.Flag(&s.back), "withscores": command.Flag(&s.withScores), "limit": command.KeepWords(2, &s.limit),
	}
}

// read takes options over, of which those with these words may stand, and refuses what does not go together.
func (s *span) read(words []string, known ...string) error {
	if err := s.options().Only(known...).Read(words); err != nil {
		return err
	}
	switch {
	case s.byScore && s.byLex:
		return command.Fault(api.ErrArg)
	case s.limit != nil && !s.byScore && !s.byLex:
		return errLimit
	case s.withScores && s.byLex:
		return errLexScores
	}
	return nil
}

// window reads the numbers of LIMIT.
func (s span) window() (window, error) {
	w := window{back: s.back, most: unlimited}
	var err error
	if s.limit != nil {
		w.skip, w.most, err = command.Both(command.Number, s.limit[0], s.limit[1])
	}
	return w, err
}

func (s span) ranger() ranger {
	switch {
	case s.byScore:
		return byScore
	case s.byLex:
		return byLex
	}
	return byRank
}

// choice reads the two ends of the range.
func (s span) choice(first, last string) (choice, error) {
	w, err := s.window()
	if err != nil {
		return nil, err
	}
	return s.ranger()(first, last, w)
}

// ranging gives the command that tells a range, of which so much is said by its name, and more by options with these words.
func ranging(named span, known ...string) func(c *call) (api.Reply, error) {
	return func(c *call) (api.Reply, error) {
		s := named
		if err := s.read(c.Args[3:], known...); err != nil {
			return api.Reply{}, err
		}
		pick, err := s.choice(c.Args[1], c.Args[2])
		if err != nil {
			return api.Reply{}, err
		}
		z, err := c.zset(c.Args[0])
		if err != nil {
			return api.Reply{}, err
		}
		return tellMembers(s.withScores, z.pick(pick)...), nil
	}
}

// storeRange makes its first key a sorted set of a range of the second one.
func (c *call) storeRange() (api.Reply, error) {
	var s span
	if err := s.read(c.Args[4:], "byscore", "bylex", "rev", "limit"); err != nil {
		return api.Reply{}, err
	}
	pick, err := s.choice(c.Args[2], c.Args[3])
	if err != nil {
		return api.Reply{}, err
	}
	z, err := c.zset(c.Args[1])
	if err != nil {
		return api.Reply{}, err
	}
	return c.store(c.Args[0], z.pick(pick)...)
}

// store makes a key a sorted set of members; it goes, if there are none. How many there are is told.
func (c *call) store(dest string, members ...api.Scored) (api.Reply, error) {
	if len(members) == 0 {
		c.Space.Drop(c.DB, dest)
		return resp.Int(0), nil
	}
	return resp.Int(len(members)), makeZset(&c.Call, dest, members...)
}

// pickWhole gives the key's sorted set, and the members that lie between the two words behind the key.
func (c *call) pickWhole(by ranger) (zset, []api.Scored, error) {
	pick, err := by(c.Args[1], c.Args[2], window{most: unlimited})
	if err != nil {
		return zset{}, nil, err
	}
	z, err := c.zset(c.Args[0])
	if err != nil {
		return zset{}, nil, err
	}
	return z, z.pick(pick), nil
}

// counting gives the command that tells how many members lie in a range.
func counting(by ranger) func(c *call) (api.Reply, error) {
	return func(c *call) (api.Reply, error) {
		_, members, err := c.pickWhole(by)
		return resp.Int(len(members)), err
	}
}

// removing gives the command that takes the members out that lie in a range.
func removing(by ranger) func(c *call) (api.Reply, error) {
	return func(c *call) (api.Reply, error) {
		z, members, err := c.pickWhole(by)
		if err != nil {
			return api.Reply{}, err
		}
		return resp.Int(z.drop(command.NamesOf(members...)...)), nil
	}
}
