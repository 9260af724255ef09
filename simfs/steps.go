package simfs

import (
	"maps"
	"slices"
	"strings"

	"cistern/api"
)

// Create makes an empty file under a name.
func (f *FS) Create(name string) api.Errno {
	if err := f.check(name); err != api.OK {
		return err
	}
	if f.now[name] == nil && len(f.now) >= api.MaxFiles {
		return api.ErrFull
	}
	return f.step(func() {
		f.created++
		f.change(change{to: name, file: &file{number: f.created}})
	})
}

// Append lays bytes behind those of a file.
func (f *FS) Append(name string, data string) api.Errno {
	x, err := f.find(name)
	if err != api.OK {
		return err
	}
	if len(data) > api.MaxFile-x.size {
		return api.ErrLong
	}
	return f.stepOrPart(func() { x.lay(data) }, func(part int) {
		x.lay(data[:min(max(part, 0), len(data))])
	})
}

// Sync makes a file's bytes safe.
func (f *FS) Sync(name string) api.Errno {
	x, err := f.find(name)
	if err != api.OK {
		return err
	}
	return f.step(x.sync)
}

// Rename lets a file stand under another name.
func (f *FS) Rename(name string, to string) api.Errno {
	x, err := f.find(name, to)
	if err != api.OK {
		return err
	}
	return f.step(func() { f.change(change{from: name, to: to, file: x}) })
}

// SyncDir makes the directory safe.
func (f *FS) SyncDir() api.Errno {
	if err := f.check(); err != api.OK {
		return err
	}
	return f.step(func() { f.safe, f.changes = maps.Clone(f.now), nil })
}

// Remove lets nothing stand under a name.
func (f *FS) Remove(name string) api.Errno {
	x, err := f.find(name)
	if err != api.OK {
		return err
	}
	return f.step(func() { f.change(change{from: name, file: x}) })
}

// check tells whether the machine is up, and all of these may be names.
func (f *FS) check(names ...string) api.Errno {
	switch {
	case f.down:
		return api.ErrCrash
	case slices.ContainsFunc(names, func(s string) bool { return !isName(s) }):
		return api.ErrName
	}
	return api.OK
}

// find gives the file that stands under a name now; the others need be names alone.
func (f *FS) find(name string, others ...string) (*file, api.Errno) {
	if err := f.check(append(others, name)...); err != api.OK {
		return nil, err
	}
	x := f.now[name]
	if x == nil {
		return nil, api.ErrFile
	}
	return x, api.OK
}

// change changes the directory now; the safe one may come to it later.
func (f *FS) change(c change) {
	c.from, c.to = strings.Clone(c.from), strings.Clone(c.to)
	f.now.apply(c)
	f.changes = append(f.changes, c)
}

// step does a step that leaves nothing where it fails.
func (f *FS) step(do func()) api.Errno { return f.stepOrPart(do, func(int) {}) }

// stepOrPart counts a step and does it, or lets it meet what is planned for it.
func (f *FS) stepOrPart(do func(), fail func(part int)) api.Errno {
	f.steps++
	if p, ok := f.due(); ok {
		return p.meet(f, fail)
	}
	do()
	return api.OK
}
