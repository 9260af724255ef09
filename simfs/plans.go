package simfs

import (
	"cmp"
	"slices"

	"cistern/api"
)

// farthest is how many steps ahead something may be planned.
const farthest = 1 << 40

// plan is what a step to come is to meet. The closure has what was told of it; it is handed the file system, so that a clone's plans are the clone's own, and what the step does where it fails.
type plan struct {
	step  int
	crash bool
	meet  func(f *FS, fail func(part int)) api.Errno
}

// Fail lets a step to come fail.
func (f *FS) Fail(n int, part int) api.Errno {
	if err := f.checkPlan(n, 1); err != api.OK {
		return err
	}
	f.lay(plan{step: f.steps + n, meet: func(_ *FS, fail func(part int)) api.Errno {
		fail(part)
		return api.ErrIO
	}})
	return api.OK
}

// Crash lets the machine go down ahead of a step to come, or now.
func (f *FS) Crash(n int, picks ...int) api.Errno {
	if err := f.checkPlan(n, 0); err != api.OK {
		return err
	}
	if n == 0 {
		f.goDown(picks)
		return api.OK
	}
	kept := slices.Clone(picks)
	f.planned = slices.DeleteFunc(f.planned, func(p plan) bool { return p.crash })
	f.lay(plan{step: f.steps + n, crash: true, meet: func(f *FS, _ func(part int)) api.Errno {
		f.goDown(kept)
		return api.ErrCrash
	}})
	return api.OK
}

// checkPlan tells whether something may be planned so many steps ahead.
func (f *FS) checkPlan(n, least int) api.Errno {
	switch {
	case f.down:
		return api.ErrCrash
	case n < least || n > farthest:
		return api.ErrArg
	}
	return api.OK
}

// lay lays a plan in where it belongs, in the place of one of the same sort for the same step.
func (f *FS) lay(p plan) {
	place, there := slices.BinarySearchFunc(f.planned, p, comparePlans)
	if there {
		f.planned[place] = p
		return
	}
	f.planned = slices.Insert(f.planned, place, p)
}

// comparePlans tells which of two plans is met first.
func comparePlans(a, b plan) int {
	switch {
	case a.step != b.step || a.crash == b.crash:
		return cmp.Compare(a.step, b.step)
	case a.crash:
		return -1
	}
	return 1
}

// due takes out what is planned for the step that was counted last. A failure behind a crash of the same step is let go by the crash.
func (f *FS) due() (plan, bool) {
	if len(f.planned) == 0 || f.planned[0].step != f.steps {
		return plan{}, false
	}
	p := f.planned[0]
	f.planned[0] = plan{}
	f.planned = f.planned[1:]
	return p, true
}
