package persist

import (
	"cistern/api"
	"cistern/simfs"
	"cistern/varint"
)

// The files' names.
const (
	live      = "dump.rdb"
	temporary = "temp-" // and anything behind it
	tempSave  = temporary + "save"
	tempOld   = temporary + "old"
)

// older names an older snapshot; 1 is the newest.
func older(i int) string { return live + "." + varint.Digits(i) }

// read gives a file's bytes, and whether it is there.
func read(fs *simfs.FS, name string) (string, bool, api.Errno) {
	text, err := fs.Read(name)
	switch err {
	case api.OK:
		return text, true, api.OK
	case api.ErrFile:
		return "", false, api.OK
	}
	return "", false, err
}
