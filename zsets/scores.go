package zsets

import (
	"cmp"
	"errors"
	"slices"

	"cistern/api"
	"cistern/command"
	"cistern/glob"
	"cistern/varint"
)

var (
	errScore = errors.New("ERR value is not a valid score")
	errRange = errors.New("ERR resulting score is out of range")
)

// readScore reads a score.
func readScore(word string) (int, error) {
	score, ok := glob.Score(word)
	if !ok {
		return 0, errScore
	}
	return score, nil
}

// inRange refuses a number that is no score.
func inRange(n int) (int, error) {
	if n < -api.MaxNumber || n > api.MaxNumber {
		return 0, errRange
	}
	return n, nil
}

func product(a, b int) (int, error) {
	n := a * b
	if a != 0 && n/a != b { // 64 bits don't hold it
		return 0, errRange
	}
	return inRange(n)
}

// join puts a score together with another one that comes so many times, one or more.
type join func(score, other, times int) (int, error)

// sum adds. The sums on the way rise or fall evenly, so that all of them are scores, if the last one is.
func sum(score, other, times int) (int, error) {
	if other != 0 && times > 2*api.MaxNumber/max(other, -other) { // 64 bits may not hold it
		return 0, errRange
	}
	return inRange(score + times*other)
}

func lesser(score, other, _ int) (int, error) { return min(score, other), nil }

func greater(score, other, _ int) (int, error) { return max(score, other), nil }

// inOrder gives members with these scores in the order of a sorted set.
func inOrder(scores map[string]int) []api.Scored {
	members := make([]api.Scored, 0, len(scores))
	for member, score := range scores {
		members = append(members, api.Scored{Member: member, Score: score})
	}
	slices.SortFunc(members, func(a, b api.Scored) int {
		return cmp.Or(cmp.Compare(a.Score, b.Score), cmp.Compare(a.Member, b.Member))
	})
	return members
}

// inTurns gives members and the digits of their scores in turns.
func inTurns(members ...api.Scored) []string {
	texts := make([]string, 0, 2*len(members))
	for _, m := range members {
		texts = append(texts, m.Member, varint.Digits(m.Score))
	}
	return texts
}

// tellMembers is the answer of members that are nobody else's memory, with their scores or without.
func tellMembers(withScores bool, members ...api.Scored) api.Reply {
	if withScores {
		return command.Listed(api.ReplyArray, inTurns(members...)...)
	}
	return command.Listed(api.ReplyArray, command.NamesOf(members...)...)
}
