package persist

import (
	"fmt"
	"slices"
	"strings"
	"testing"

	"cistern/api"
	"cistern/simfs"
)

// watch is a file system whose live file is looked at all the while.
type watch struct {
	t   *testing.T
	f   *simfs.FS
	may []inOne // what the live file was at the moments since the last SyncDir that was done, with that one
	did []string
}

// watched begins to look at a file system of which all is safe.
func watched(t *testing.T, f *simfs.FS) *watch {
	return &watch{t: t, f: f, may: []inOne{liveOf(f)}}
}

func (w *watch) clone() *watch {
	return &watch{w.t, w.f.Clone(), slices.Clone(w.may), slices.Clip(w.did)}
}

func (w *watch) failed(format string, args ...any) {
	w.t.Helper()
	w.t.Fatalf("behind %s: %s\n%s", strings.Join(w.did, ", "), fmt.Sprintf(format, args...), seen(w.f))
}

// save saves a text that no other Save has, and holds P24.5 and P24.6 behind it.
func (w *watch) save(text string, keep int) api.Errno {
	w.t.Helper()
	now, safe := liveOf(w.f), under(w.f.Safe(), "dump.rdb")
	err := Save(w.f, text, keep)
	w.did = append(w.did, fmt.Sprintf("Save(%s, %d) = %d", short(text), keep, err))
	next, got := inOne{text, true}, liveOf(w.f)
	switch {
	case err == api.OK:
		if got != next || under(w.f.Safe(), "dump.rdb") != next {
			w.failed("the live file is %s, safe %s", got, under(w.f.Safe(), "dump.rdb"))
		}
		w.may = []inOne{next}
	case w.f.Up():
		if got != next && got != now {
			w.failed("the live file is %s, was %s", got, now)
		}
		w.may = append(w.may, got)
	default:
		w.may = append(w.may, next)
		w.down(safe)
	}
	return err
}

// down holds what a crash has left.
func (w *watch) down(safe inOne) {
	w.t.Helper()
	got := liveOf(w.f)
	if !slices.Contains(w.may, got) || safe.there && !got.there {
		w.failed("the live file is %s, may be %s, was safe as %s", got, w.may, safe)
	}
	w.may = []inOne{got}
}

// crash lets the machine go down now.
func (w *watch) crash(picks ...int) {
	w.t.Helper()
	safe := under(w.f.Safe(), "dump.rdb")
	w.f.Crash(0, picks...)
	w.did = append(w.did, fmt.Sprintf("Crash(0, %v)", picks))
	w.down(safe)
}

// load starts the machine, if it is down, and loads: what it tells is what stood there.
func (w *watch) load() api.Errno {
	w.t.Helper()
	if !w.f.Up() {
		w.f.Start()
		w.did = append(w.did, "Start")
	}
	now, safe, left := liveOf(w.f), under(w.f.Safe(), "dump.rdb"), len(temps(w.f))
	text, there, err := Load(w.f)
	w.did = append(w.did, fmt.Sprintf("Load = %s, %v, %d", short(text), there, err))
	switch {
	case err == api.OK:
		if (inOne{text, there}) != now || liveOf(w.f) != now || temps(w.f) != nil {
			w.failed("the live file was %s", now)
		}
		if left > 0 {
			w.may = []inOne{now}
		}
	case text != "" || there:
		w.failed("something is told beside an error")
	case w.f.Up() && liveOf(w.f) != now:
		w.failed("the live file was %s", now)
	case !w.f.Up():
		w.down(safe)
	}
	return err
}

// plans is a list of what survives: of P changes, and of each file Q bytes, all that may be told apart.
func plans() [][]int {
	list := [][]int{nil, {-1}, {-5, -1, -1, 3, 3, 3}, {1 << 40}}
	for p := range 12 {
		for q := range 5 {
			list = append(list, []int{p, q, q, q, q, q, q, q, q, q, q})
		}
		list = append(list, []int{p, 0, 1, 2, 3, 0, 1, 2, 3, 0, 1}, []int{p, 3, 2, 1, 0, 3, 2, 1, 0, 3, 2}, []int{p, 1 << 50, -1, 1<<50 + 1, -1, 1<<50 + 2})
	}
	return list
}

// begun are file systems of all sorts: with no live file, with one that is safe, with one whose rename is not, with what failed Saves and crashes have left.
func begun(t *testing.T) []*watch {
	var list []*watch
	add := func(w *watch) *watch {
		list = append(list, w)
		return w
	}
	add(watched(t, simfs.New()))
	add(watched(t, disk(t, "dump.rdb", "old")))
	add(watched(t, disk(t, "dump.rdb", "")))
	add(watched(t, disk(t, "dump.rdb", "old", "dump.rdb.1", "one", "dump.rdb.2", "two", "temp-save", "left", "temp-old", "gone", "temp-x", "")))
	add(watched(t, disk(t, "dump.rdb.1", "one", "temp-save", "left")))
	first := add(watched(t, simfs.New())) // the rename of the first Save was done, and is not safe
	first.f.Fail(5, 0)
	first.save("abc", 1)
	if len(first.may) != 2 {
		first.failed("the Save did not fail at its end")
	}
	again := add(watched(t, disk(t, "dump.rdb", "old"))) // two renames that are not safe
	again.f.Fail(9, 0)
	again.f.Fail(18, 0)
	again.save("abc", 1)
	again.save("abcd", 1)
	if len(again.may) != 3 {
		again.failed("the second Save did not fail at its end")
	}
	stuck := add(watched(t, disk(t, "dump.rdb", "old", "dump.rdb.1", "one"))) // the clean-up failed
	stuck.f.Fail(3, 0)
	stuck.f.Fail(4, 0)
	stuck.save("stuck", 2)
	lost := add(watched(t, disk(t, "dump.rdb", "old"))) // a crash has left a part of a temporary file
	lost.f.Crash(3, 1, 0, 2)
	lost.save("lost", 2)
	lost.f.Start()
	return list
}

// TestP245Crash: a crash ahead of each step of a Save, and behind it, with all that may survive; then Start and Load.
func TestP245Crash(t *testing.T) {
	for _, w := range begun(t) {
		for _, keep := range []int{0, 1, 2, 8} {
			ops := planned(w.f, "new", keep)
			exchange := slices.IndexFunc(ops, func(o op) bool { return o.name == "Rename temp-save dump.rdb" })
			for n := 1; n <= len(ops); n++ {
				for _, p := range plans() {
					x := w.clone()
					x.f.Crash(n, p...)
					x.did = append(x.did, fmt.Sprintf("Crash(%d, %v)", n, p))
					if err := x.save("new", keep); err != api.ErrCrash {
						x.failed("error %d", err)
					}
					if n-1 <= exchange && liveOf(x.f).text == "new" {
						x.failed("the new one ahead of its rename")
					}
					if err := x.load(); err != api.OK {
						x.failed("error %d", err)
					}
				}
			}
			for _, p := range plans() {
				x := w.clone()
				if err := x.save("new", keep); err != api.OK {
					x.failed("error %d", err)
				}
				x.crash(p...)
				if err := x.load(); err != api.OK || liveOf(x.f) != (inOne{"new", true}) {
					x.failed("error %d", err)
				}
			}
		}
	}
}

// TestP245Fail: each step of a Save fails, its clean-up fails or not, then a crash, now or in the Load behind it.
func TestP245Fail(t *testing.T) {
	m := mix(77)
	for _, w := range begun(t) {
		for _, keep := range []int{0, 1, 3} {
			steps := len(planned(w.f, "new", keep))
			for n := 1; n <= steps; n++ {
				for range 60 {
					x := w.clone()
					x.f.Fail(n, of(&m, -1, 0, 1, 2, 3, 9))
					for range m.below(3) {
						x.f.Fail(n+1+m.below(3), 0)
					}
					if m.below(3) == 0 {
						x.f.Crash(n+m.below(5), m.picks()...)
					}
					if err := x.save("new", keep); err != api.ErrIO && err != api.ErrCrash {
						x.failed("error %d", err)
					}
					if x.f.Up() && m.below(2) == 0 {
						x.crash(m.picks()...)
					}
					x.load()
					x.crash(m.picks()...)
					if err := x.load(); err != api.OK {
						x.failed("error %d", err)
					}
				}
			}
		}
	}
}

// TestP245Several: three Saves, of which one step each fails, or none, and a crash in the last one or behind it.
func TestP245Several(t *testing.T) {
	for _, part := range []int{0, 1, 2, 3} {
		t.Run(fmt.Sprint(part), func(t *testing.T) {
			t.Parallel()
			m := mix(part + 99)
			for first := range 12 {
				for second := range 12 {
					for third := range 12 {
						three(t, &m, first, second, third)
					}
				}
			}
		})
	}
}

// three does these Saves, each with the step of that number planned to fail.
func three(t *testing.T, m *mix, first, second, third int) {
	w := watched(t, disk(t, "dump.rdb", "old"))
	if m.below(3) == 0 {
		w = watched(t, simfs.New())
	}
	for i, n := range []int{first, second} {
		w.f.Fail(n+1, m.below(4))
		w.save(fmt.Sprint("text ", i, m.below(100)), m.below(3))
	}
	w.f.Crash(third+1, m.picks()...)
	if err := w.save("last", m.below(3)); w.f.Up() {
		w.f.Crash(0, m.picks()...)
		w.did = append(w.did, "Crash(0)")
		if got := liveOf(w.f); err == api.OK && got != (inOne{"last", true}) {
			w.failed("the live file is %s", got)
		}
		w.down(inOne{})
	}
	w.load()
	w.crash()
	if err := w.load(); err != api.OK {
		w.failed("error %d", err)
	}
}

// TestP245Mixed: long runs of Saves, Loads, failures and crashes.
func TestP245Mixed(t *testing.T) {
	for part := range 4 {
		t.Run(fmt.Sprint(part), func(t *testing.T) {
			t.Parallel()
			for seed := range 400 {
				m := mix(seed*4 + part + 1)
				w := watched(t, simfs.New())
				for i := range 40 {
					w.any(&m, i)
				}
			}
		})
	}
}

// any does something of all sorts.
func (w *watch) any(m *mix, i int) {
	w.t.Helper()
	if !w.f.Up() && m.below(4) > 0 {
		w.load()
		return
	}
	switch m.below(10) {
	case 0:
		w.f.Fail(1+m.below(20), m.below(12)-1)
		w.did = append(w.did, "Fail")
	case 1:
		w.f.Crash(1+m.below(40), m.picks()...)
		w.did = append(w.did, "Crash planned")
	case 2:
		if w.f.Up() {
			w.crash(m.picks()...)
		}
	case 3:
		w.load()
	default:
		if text := fmt.Sprintf("%s of save %d", strings.Repeat("text", m.below(4)), i); w.f.Up() {
			w.save(text, of(m, 0, 1, 2, 3, m.below(9)))
		} else if before := seen(w.f); Save(w.f, text, 0) != api.ErrCrash || seen(w.f) != before {
			w.failed("a Save on a machine that is down")
		}
	}
}

// TestP245Whole: a text of several pieces is never there in part, whatever survives of them.
func TestP245Whole(t *testing.T) {
	old, text := long(150000, 1), long(140000, 2)
	base := watched(t, disk(t, "dump.rdb", old))
	m := mix(5)
	for _, keep := range []int{0, 1} {
		steps := len(planned(base.f, text, keep))
		for n := 1; n <= steps; n++ {
			for range 12 {
				w := base.clone()
				var picks []int
				for range 5 {
					picks = append(picks, of(&m, 0, 1, 5, 65536, 100000, m.below(200000)))
				}
				w.f.Crash(n, picks...)
				w.did = append(w.did, fmt.Sprintf("Crash(%d, %v)", n, picks))
				if err := w.save(text, keep); err != api.ErrCrash {
					w.failed("error %d", err)
				}
				if err := w.load(); err != api.OK {
					w.failed("error %d", err)
				}
			}
		}
	}
}

// TestP246Left: behind a Save that failed at any step, the clean-up with it, and a Tidy that is OK no temporary file is there, nor behind a crash.
func TestP246Left(t *testing.T) {
	for _, w := range begun(t) {
		for _, keep := range []int{0, 1, 8} {
			for n := 1; n <= len(planned(w.f, "new", keep)); n++ {
				for behind := range 8 {
					x := w.clone()
					for i := range 4 {
						if i == 0 || behind>>(i-1)&1 == 1 {
							x.f.Fail(n+i, i)
						}
					}
					if err := x.save("new", keep); err != api.ErrIO {
						x.failed("error %d", err)
					}
					if behind&3 == 0 && (under(x.f.Now(), "temp-save").there || under(x.f.Now(), "temp-old").there) {
						x.failed("the clean-up left something")
					}
					for x.load() == api.ErrIO {
					}
					x.crash(behind, 1, 1, 1, 1, 1)
					x.f.Start()
					if _, err := Tidy(x.f); err != api.OK || temps(x.f) != nil {
						x.failed("error %d", err)
					}
				}
			}
		}
	}
}
