package command

import (
	"errors"

	"cistern/api"
	"cistern/varint"
)

var (
	errAmount   = errors.New("ERR value is out of range, must be positive")
	errKeys     = errors.New("ERR numkeys should be greater than 0")
	errManyKeys = errors.New("ERR Number of keys can't be greater than number of args")
	errLimit    = errors.New("ERR LIMIT can't be negative")
)

// Amount reads how many elements are to be taken out.
func Amount(word string) (int, error) {
	n, ok := varint.Number(word)
	if !ok || n < 0 {
		return 0, errAmount
	}
	return n, nil
}

// KeyCount reads how many keys stand behind a word.
func KeyCount(word string) (int, error) {
	n, ok := varint.Number(word)
	if !ok || n <= 0 {
		return 0, errKeys
	}
	return n, nil
}

// CountedKeys reads keys behind the word that counts them, which is the first one: they, and the words behind them.
func CountedKeys(words []string) (keys, behind []string, err error) {
	n, err := KeyCount(words[0])
	if err != nil {
		return nil, nil, err
	}
	words = words[1:]
	if n > len(words) {
		return nil, nil, errManyKeys
	}
	return words[:n], words[n:], nil
}

// Limit reads LIMIT and its number, or no words at all, which are as a number of 0: no limit.
func Limit(words ...string) (int, error) {
	if len(words) == 0 {
		return 0, nil
	}
	if len(words) != 2 || !Is(words[0], "limit") {
		return 0, Fault(api.ErrArg)
	}
	n, ok := varint.Number(words[1])
	if !ok {
		return 0, Fault(api.ErrArg)
	}
	if n < 0 {
		return 0, errLimit
	}
	return n, nil
}
