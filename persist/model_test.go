package persist

import (
	"fmt"
	"slices"
	"strings"
	"testing"

	"cistern/api"
	"cistern/simfs"
)

// written are the steps that write a file, by P24.1.
func written(name, text string) []op {
	ops := []op{create(name)}
	for i := 0; i < len(text); i += 65536 {
		ops = append(ops, lay(name, text[i:min(i+65536, len(text))]))
	}
	return append(ops, syncFile(name))
}

// planned are the steps of a Save by P24.1, from what stands in the directory ahead of it.
func planned(f *simfs.FS, text string, keep int) []op {
	now := f.Now()
	name := func(i int) string { return fmt.Sprintf("dump.rdb.%d", i) }
	ops := written("temp-save", text)
	if old := under(now, "dump.rdb"); keep > 0 && old.there {
		ops = append(ops, written("temp-old", old.text)...)
		for i := keep - 1; i >= 1; i-- {
			if under(now, name(i)).there {
				ops = append(ops, rename(name(i), name(i+1)))
			}
		}
		ops = append(ops, rename("temp-old", "dump.rdb.1"))
	}
	ops = append(ops, rename("temp-save", "dump.rdb"))
	for i := keep + 1; i <= 8; i++ {
		if under(now, name(i)).there {
			ops = append(ops, remove(name(i)))
		}
	}
	return append(ops, syncDir())
}

// done does a Save's steps up to the first error, with the clean-up behind it, each of them by a call of its own.
func done(f *simfs.FS, ops []op) api.Errno {
	for _, o := range ops {
		err := o.do(f)
		if err == api.OK {
			continue
		}
		for _, name := range []string{"temp-save", "temp-old"} {
			if under(f.Now(), name).there {
				f.Remove(name)
			}
		}
		return err
	}
	return api.OK
}

// temps are the temporary files, by rising name.
func temps(f *simfs.FS) []string {
	var list []string
	for _, x := range f.Now() {
		if strings.HasPrefix(x.Name, "temp-") {
			list = append(list, x.Name)
		}
	}
	return list
}

// tidied does P24.3 by calls of its own.
func tidied(f *simfs.FS) (int, api.Errno) {
	if !f.Up() {
		return 0, api.ErrCrash
	}
	list := temps(f)
	for _, name := range list {
		if err := f.Remove(name); err != api.OK {
			return 0, err
		}
	}
	if len(list) > 0 {
		if err := f.SyncDir(); err != api.OK {
			return 0, err
		}
	}
	return len(list), api.OK
}

// olderOf are the older snapshots' texts that stand in a directory.
func olderOf(files []api.Pair) []string {
	var list []string
	for i := 1; i <= 8; i++ {
		if x := under(files, fmt.Sprintf("dump.rdb.%d", i)); x.there {
			list = append(list, x.text)
		}
	}
	return list
}

// trial is a Save that is asked of clones of a file system, each time with something else planned.
type trial struct {
	t    *testing.T
	f    *simfs.FS
	text string
	keep int
	ops  []op
	deep [][]int
}

// ask plans something on two clones, saves on one, does the steps on the other, and holds the one against the other.
func (x *trial) ask(what string, plan func(f *simfs.FS)) (*simfs.FS, api.Errno) {
	x.t.Helper()
	f, g := x.f.Clone(), x.f.Clone()
	plan(f)
	plan(g)
	got, want := Save(f, x.text, x.keep), done(g, x.ops)
	if got != want || !alike(f, g, x.deep...) {
		var names []string
		for _, o := range x.ops {
			names = append(names, o.name)
		}
		x.t.Fatalf("on %s: Save(%s, %d), %s: answered %d, %s\nwant %d, %s\nby %s", seen(x.f), short(x.text), x.keep, what, got, seen(f), want, seen(g), strings.Join(names, ", "))
	}
	return f, got
}

// whole asks the Save with nothing planned.
func (x *trial) whole() {
	x.t.Helper()
	f, err := x.ask("nothing planned", func(*simfs.FS) {})
	if err != api.OK || f.Steps() != x.f.Steps()+len(x.ops) || liveOf(f) != (inOne{x.text, true}) {
		x.t.Fatalf("Save(%s, %d): %d, %s", short(x.text), x.keep, err, seen(f))
	}
	must(x.t, f, op{"Crash", func(f *simfs.FS) api.Errno { return f.Crash(0) }})
	if liveOf(f) != (inOne{x.text, true}) {
		x.t.Fatalf("Save(%s, %d) was OK, and a crash behind it leaves %s", short(x.text), x.keep, all(f.Now()))
	}
}

// fails asks it with each step planned to fail, with each of the parts; P24.6 is held behind each. The clean-up's steps fail, or meet a crash, too.
func (x *trial) fails(parts ...int) {
	x.t.Helper()
	exchange := slices.IndexFunc(x.ops, func(o op) bool { return o.name == "Rename temp-save dump.rdb" })
	for n := 1; n <= len(x.ops); n++ {
		for _, part := range parts {
			x.failed(n, exchange, fmt.Sprintf("Fail(%d, %d)", n, part), func(f *simfs.FS) { f.Fail(n, part) })
		}
		x.failed(n, exchange, fmt.Sprintf("Fail(%d), Fail(%d)", n, n+1), func(f *simfs.FS) { f.Fail(n, 0); f.Fail(n+1, 0) })
		x.failed(n, exchange, fmt.Sprintf("Fail(%d), Fail(%d)", n, n+2), func(f *simfs.FS) { f.Fail(n, 1); f.Fail(n+2, 0) })
		x.failed(n, exchange, fmt.Sprintf("Fail(%d) to Fail(%d)", n, n+2), func(f *simfs.FS) { f.Fail(n, 1); f.Fail(n+1, 0); f.Fail(n+2, 0) })
		x.failed(n, exchange, fmt.Sprintf("Fail(%d), Crash(%d)", n, n+1), func(f *simfs.FS) { f.Fail(n, 0); f.Crash(n+1, n) })
		x.failed(n, exchange, fmt.Sprintf("Fail(%d), Crash(%d)", n, n+2), func(f *simfs.FS) { f.Fail(n, 0); f.Crash(n+2, n+1, 1, 1) })
	}
}

// failed asks it with the n-th step planned to fail.
func (x *trial) failed(n, exchange int, what string, plan func(f *simfs.FS)) {
	x.t.Helper()
	f, err := x.ask(what, plan)
	if err != api.ErrIO {
		x.t.Fatalf("%s: error %d", what, err)
	}
	if !f.Up() {
		f.Start()
	} else if want := liveOf(x.f); n-1 <= exchange && liveOf(f) != want {
		x.t.Fatalf("%s: the live file is %s, was %s", what, liveOf(f), want)
	} else if n-1 > exchange && liveOf(f) != (inOne{x.text, true}) {
		x.t.Fatalf("%s: the live file is %s", what, liveOf(f))
	}
	if _, err := Tidy(f); err == api.OK && temps(f) != nil {
		x.t.Fatalf("%s: behind Tidy: %s", what, all(f.Now()))
	}
}

// crashes asks it with a crash planned ahead of each step, with each of the picks.
func (x *trial) crashes(picks ...[]int) {
	x.t.Helper()
	for n := 1; n <= len(x.ops); n++ {
		for _, p := range picks {
			f, err := x.ask(fmt.Sprintf("Crash(%d, %v)", n, p), func(f *simfs.FS) { f.Crash(n, p...) })
			if err != api.ErrCrash || f.Steps() != x.f.Steps()+n || f.Up() {
				x.t.Fatalf("Crash(%d, %v): error %d, %s", n, p, err, seen(f))
			}
		}
	}
}
