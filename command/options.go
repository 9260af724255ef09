package command

import (
	"cistern/api"
	"cistern/glob"
)

// Option takes over what is said by an option's word and by those of the words behind it that go with it; it gives the others.
type Option func(behind []string) ([]string, error)

// Options are found by their words, in small letters.
type Options map[string]Option

// Only leaves the options of these words.
func (o Options) Only(words ...string) Options {
	some := Options{}
	for _, word := range words {
		some[word] = o[word]
	}
	return some
}

// Lead reads options up to the first word that is none: it, and all behind it.
func (o Options) Lead(words []string) ([]string, error) {
	for len(words) > 0 {
		take, ok := o[glob.Fold(words[0])]
		if !ok {
			break
		}
		var err error
		if words, err = take(words[1:]); err != nil {
			return nil, err
		}
	}
	return words, nil
}

// Read reads words that must all be options.
func (o Options) Read(words []string) error {
	left, err := o.Lead(words)
	if err == nil && len(left) > 0 {
		err = Fault(api.ErrArg)
	}
	return err
}

// Choice is an option that stands alone, and says which one of several is meant.
func Choice[T any](meant *T, one T) Option {
	return func(behind []string) ([]string, error) {
		*meant = one
		return behind, nil
	}
}

// Flag is an option that stands alone, and says that something is so.
func Flag(on *bool) Option { return Choice(on, true) }

// KeepWords is an option with so many words behind it, which are kept as they stand.
func KeepWords(n int, words *[]string) Option {
	return func(behind []string) ([]string, error) {
		if len(behind) < n {
			return nil, Fault(api.ErrArg)
		}
		*words = behind[:n]
		return behind[n:], nil
	}
}

// TakeWord is an option with a word behind it, which a function takes over.
func TakeWord(take func(word string) error) Option {
	return func(behind []string) ([]string, error) {
		if len(behind) == 0 {
			return nil, Fault(api.ErrArg)
		}
		return behind[1:], take(behind[0])
	}
}
