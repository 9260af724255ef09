package table

import (
	"strings"

	"cistern/api"
)

// keysOf gives the keys of words that are of a command.
func keysOf(spec api.Spec, args []string) ([]string, api.Errno) {
	keys := placed(spec, args)
	if spec.Count == 0 {
		return keys, api.OK
	}
	behind := args[spec.Count+1:]
	n, ok := counted(args[spec.Count], len(behind))
	if !ok {
		return nil, api.ErrNumber
	}
	for _, key := range behind[:n] {
		keys = append(keys, strings.Clone(key))
	}
	return keys, api.OK
}

// placed gives the keys whose places the table tells.
func placed(spec api.Spec, args []string) []string {
	if spec.First == 0 {
		return nil
	}
	end := spec.Last
	if end < 0 {
		end += len(args)
	}
	end = min(end, len(args)-1)
	var keys []string
	for at := spec.First; at <= end; at += spec.Step {
		keys = append(keys, strings.Clone(args[at]))
	}
	return keys
}

// counted reads how many keys there are, from 1 up to so many. What is above them is given up at once, so that no number becomes too great; what is 0 too, as a digit behind that would make it needless.
func counted(s string, upTo int) (int, bool) {
	n := 0
	for i := range len(s) {
		digit := s[i] - '0'
		if digit > 9 {
			return 0, false
		}
		n = n*10 + int(digit)
		if n == 0 || n > upTo {
			return 0, false
		}
	}
	return n, n > 0
}
