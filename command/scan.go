package command

import (
	"errors"
	"maps"
	"slices"

	"cistern/api"
	"cistern/glob"
	"cistern/resp"
	"cistern/varint"
)

const (
	usualCount = 10  // how many elements a step of a scan is to meet, where that is not said
	everything = "*" // the pattern of every text
)

var errCursor = errors.New("ERR invalid cursor")

// Pattern says which texts are told.
type Pattern string

// ReadPattern reads a pattern, which must not be too long.
func ReadPattern(word string) (Pattern, error) {
	if len(word) > api.MaxPattern {
		return "", Fault(api.ErrArg)
	}
	return Pattern(word), nil
}

// Matching leaves of a list, which is the caller's to change, the texts that match.
func (p Pattern) Matching(texts []string) []string {
	if p == everything {
		return texts
	}
	return slices.DeleteFunc(texts, func(text string) bool { return !glob.Match(string(p), text, false) })
}

// Scan is what a step of a scan is asked for.
type Scan struct {
	Pattern
	Cursor int
	Count  int // elements that are to be met
}

// ReadScan reads a cursor and the options behind it, of which the last one of each counts.
func ReadScan(cursor string, options ...string) (Scan, error) {
	return ReadScanWith(nil, cursor, options...)
}

// ReadScanWith is the same of a scan that has options of its own.
func ReadScanWith(own Options, cursor string, options ...string) (Scan, error) {
	n, ok := varint.Number(cursor)
	if !ok || n < 0 {
		return Scan{}, errCursor
	}
	s := Scan{Pattern: everything, Cursor: n, Count: usualCount}
	known := Options{"match": TakeWord(s.takePattern), "count": TakeWord(s.takeCount)}
	maps.Copy(known, own)
	if err := known.Read(options); err != nil {
		return Scan{}, err
	}
	return s, nil
}

func (s *Scan) takePattern(word string) (err error) {
	s.Pattern, err = ReadPattern(word)
	return err
}

func (s *Scan) takeCount(word string) error {
	n, ok := varint.Number(word)
	if !ok || n <= 0 {
		return Fault(api.ErrArg)
	}
	s.Count = n
	return nil
}

// Scanned is the answer to a step of a scan: the cursor for the next one, and what is told.
func Scanned(next int, elements ...string) api.Reply {
	return resp.Array(resp.Bulk(varint.Digits(next)), resp.Texts(elements...))
}
