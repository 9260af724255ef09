package command

import (
	"errors"

	"cistern/api"
	"cistern/glob"
	"cistern/resp"
	"cistern/varint"
)

const (
	usualCount = 10  // how many elements a step of a scan is to meet, where that is not said
	everything = "*" // the pattern of every text
)

var errCursor = errors.New("ERR invalid cursor")

// Scan is what a step of a scan is asked for.
type Scan struct {
	Cursor  int
	Count   int // elements that are to be met
	pattern string
}

// ReadScan reads a cursor and the options behind it, of which the last one of each counts.
func ReadScan(cursor string, options ...string) (Scan, error) {
	return ReadScanWith(func(string) bool { return false }, cursor, options...)
}

// ReadScanWith is the same of a scan that has options of its own without a word behind them: flag takes such a one over, and tells whether it has.
func ReadScanWith(flag func(option string) bool, cursor string, options ...string) (Scan, error) {
	n, ok := varint.Number(cursor)
	if !ok || n < 0 {
		return Scan{}, errCursor
	}
	s := Scan{Cursor: n, Count: usualCount, pattern: everything}
	next := Words(options)
	for option, more := next(); more; option, more = next() {
		if flag(option) {
			continue
		}
		word, has := next()
		if !has || !s.read(option, word) {
			return Scan{}, Fault(api.ErrArg)
		}
	}
	return s, nil
}

// read takes an option and the word behind it over; whether they may be.
func (s *Scan) read(option, word string) bool {
	switch {
	case Is(option, "match"):
		s.pattern = word
		return len(word) <= api.MaxPattern
	case Is(option, "count"):
		n, ok := varint.Number(word)
		s.Count = n
		return ok && n > 0
	}
	return false
}

// Matches tells whether an element that was met is to be told.
func (s Scan) Matches(element string) bool {
	return s.pattern == everything || glob.Match(s.pattern, element, false)
}

// Scanned is the answer to a step of a scan: the cursor for the next one, and what is told.
func Scanned(next int, elements ...string) api.Reply {
	return resp.Array(resp.Bulk(varint.Digits(next)), resp.Texts(elements...))
}
