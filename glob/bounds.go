package glob

import (
	"strings"

	"cistern/api"
	"cistern/varint"
)

// How the ends of ranges are told.
const (
	openMark   = "("
	closedMark = "["
	lexBegin   = "-"
	lexEnd     = "+"
)

// Bound reads an end of a range of scores.
func Bound(s string) (api.Bound, api.Errno) {
	rest, open := strings.CutPrefix(s, openMark)
	switch Fold(rest) {
	case "-inf":
		return api.Bound{Inf: -1}, api.OK
	case "+inf", "inf":
		return api.Bound{Inf: 1}, api.OK
	}
	score, ok := Score(rest)
	if !ok {
		return api.Bound{}, api.ErrBound
	}
	return api.Bound{Score: score, Open: open}, api.OK
}

// Lex reads an end of a range of members.
func Lex(s string) (api.Lex, api.Errno) {
	switch s {
	case lexBegin:
		return api.Lex{Inf: -1}, api.OK
	case lexEnd:
		return api.Lex{Inf: 1}, api.OK
	}
	if text, closed := strings.CutPrefix(s, closedMark); closed {
		return api.Lex{Text: text}, api.OK
	}
	if text, open := strings.CutPrefix(s, openMark); open {
		return api.Lex{Text: text, Open: true}, api.OK
	}
	return api.Lex{}, api.ErrBound
}

// Score reads a score.
func Score(s string) (int, bool) {
	n, ok := varint.Number(s)
	if !ok || n < -api.MaxNumber || n > api.MaxNumber {
		return 0, false
	}
	return n, true
}
