package persist

import (
	"slices"

	"cistern/api"
	"cistern/simfs"
)

// pieceSize is how many bytes are appended at once.
const pieceSize = 65536

// step is a part of what is done to the file system; an error of it ends the whole.
type step func() api.Errno

// inOrder does steps, up to the first that answers an error.
func inOrder(steps ...step) api.Errno {
	for _, do := range steps {
		if err := do(); err != api.OK {
			return err
		}
	}
	return api.OK
}

// saving is a Save under way.
type saving struct {
	fs   *simfs.FS
	text string
	keep int
}

// run does a Save's steps, in an order that leaves the live file whole wherever they end: the text is safe ahead of its rename, and what was there goes by that rename alone.
func (s *saving) run() (err api.Errno) {
	defer func() {
		if err != api.OK {
			s.cleanUp()
		}
	}()
	return inOrder(s.layDown, s.turn, s.exchange, s.drop, s.fs.SyncDir)
}

// layDown writes the text where nobody looks for a snapshot.
func (s *saving) layDown() api.Errno { return s.write(tempSave, s.text) }

// turn makes the live file the newest of the older snapshots. It is copied, as it must not be gone at any moment.
func (s *saving) turn() api.Errno {
	if s.keep == 0 {
		return api.OK
	}
	old, there, err := read(s.fs, live)
	if err != api.OK || !there {
		return err
	}
	steps := []step{func() api.Errno { return s.write(tempOld, old) }}
	for i := s.keep - 1; i >= 1; i-- {
		steps = append(steps, s.ifThere(older(i), s.rename(older(i), older(i+1))))
	}
	return inOrder(append(steps, s.rename(tempOld, older(1)))...)
}

// exchange puts the text in the live file's place.
func (s *saving) exchange() api.Errno { return s.rename(tempSave, live)() }

// drop removes the older snapshots that are too many.
func (s *saving) drop() api.Errno {
	var steps []step
	for i := s.keep + 1; i <= api.MaxKeep; i++ {
		steps = append(steps, s.ifThere(older(i), s.remove(older(i))))
	}
	return inOrder(steps...)
}

// cleanUp removes what a Save that ended early has left. Its own errors are let go: what is told is why the Save ended.
func (s *saving) cleanUp() {
	for _, name := range []string{tempSave, tempOld} {
		s.ifThere(name, s.remove(name))()
	}
}

// write makes a file of these bytes, all of them safe.
func (s *saving) write(name, text string) api.Errno {
	steps := []step{func() api.Errno { return s.fs.Create(name) }}
	for len(text) > 0 {
		piece := text[:min(len(text), pieceSize)]
		text = text[len(piece):]
		steps = append(steps, func() api.Errno { return s.fs.Append(name, piece) })
	}
	return inOrder(append(steps, func() api.Errno { return s.fs.Sync(name) })...)
}

// rename is the step that renames a file.
func (s *saving) rename(name, to string) step {
	return func() api.Errno { return s.fs.Rename(name, to) }
}

// remove is the step that removes a file.
func (s *saving) remove(name string) step {
	return func() api.Errno { return s.fs.Remove(name) }
}

// ifThere is a step that is left out where a file is not there when its turn comes.
func (s *saving) ifThere(name string, do step) step {
	return func() api.Errno {
		names, err := s.fs.List()
		if err != api.OK || !slices.Contains(names, name) {
			return err
		}
		return do()
	}
}
