package zsets

import (
	"cistern/api"
	"cistern/command"
	"cistern/glob"
)

// option takes over what is said by an option's word and by those of the words behind it that go with it; it gives the others.
type option func(behind []string) ([]string, error)

// options are found by their words, in small letters.
type options map[string]option

// only leaves the options of these words.
func (o options) only(words ...string) options {
	some := options{}
	for _, word := range words {
		some[word] = o[word]
	}
	return some
}

// lead reads options up to the first word that is none: it, and all behind it.
func (o options) lead(words []string) ([]string, error) {
	for len(words) > 0 {
		take, ok := o[glob.Fold(words[0])]
		if !ok {
			break
		}
		var err error
		if words, err = take(words[1:]); err != nil {
			return nil, err
		}
	}
	return words, nil
}

// read reads words that must all be options.
func (o options) read(words []string) error {
	left, err := o.lead(words)
	if err == nil && len(left) > 0 {
		err = command.Fault(api.ErrArg)
	}
	return err
}

// flag is an option that stands alone.
func flag(on *bool) option {
	return func(behind []string) ([]string, error) {
		*on = true
		return behind, nil
	}
}
