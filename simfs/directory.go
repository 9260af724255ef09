package simfs

import (
	"maps"
	"slices"
	"strings"

	"cistern/api"
)

// directory says which name stands for which file.
type directory map[string]*file

// change leads from one directory to the next: its file stands under one name no more, and under another one from then on. "" is no name: it stood, or stands, nowhere.
type change struct {
	from, to string
	file     *file
}

// apply makes a change.
func (d directory) apply(c change) {
	delete(d, c.from)
	if c.to != "" {
		d[c.to] = c.file
	}
}

// clone is a directory of the files' twins.
func (d directory) clone(twins map[*file]*file) directory {
	like := maps.Clone(d)
	for name, x := range d {
		like[name] = twin(x, twins)
	}
	return like
}

// names are all names, rising.
func (d directory) names() []string {
	list := make([]string, 0, len(d))
	for name := range d {
		list = append(list, strings.Clone(name))
	}
	slices.Sort(list)
	return list
}

// pairs are all names, rising, with what is told of their files.
func (d directory) pairs(told func(x *file) string) []api.Pair {
	list := make([]api.Pair, 0, len(d))
	for _, name := range d.names() {
		list = append(list, api.Pair{Name: name, Value: told(d[name])})
	}
	return list
}

// isName tells whether a text may be a file's name.
func isName(s string) bool {
	if len(s) == 0 || len(s) > api.MaxName || s == "." || s == ".." {
		return false
	}
	for i := range len(s) {
		if !isSign(s[i]) {
			return false
		}
	}
	return true
}

// isSign tells whether a byte may stand in a name.
func isSign(b byte) bool {
	switch {
	case 'a' <= b && b <= 'z', 'A' <= b && b <= 'Z', '0' <= b && b <= '9':
		return true
	}
	return b == '.' || b == '-' || b == '_'
}
