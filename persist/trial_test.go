package persist

import (
	"fmt"
	"slices"
	"strings"
	"testing"

	"cistern/api"
	"cistern/simfs"
)

// mix gives numbers that look as if by chance, the same ones each time.
type mix uint64

func (m *mix) below(n int) int {
	*m ^= *m << 13
	*m ^= *m >> 7
	*m ^= *m << 17
	return int(uint64(*m) >> 1 % uint64(n))
}

// of is one of the given.
func of[T any](m *mix, list ...T) T { return list[m.below(len(list))] }

// picks are what survives a crash, as if by chance: below 0, few, and more than there are.
func (m *mix) picks() []int {
	var list []int
	for range m.below(8) {
		list = append(list, of(m, -1, 0, 1, 2, 3, m.below(12), m.below(1000)))
	}
	return list
}

func short(s string) string {
	if len(s) > 100 {
		return fmt.Sprintf("%d bytes of %q", len(s), s[:10])
	}
	return fmt.Sprintf("%q", s)
}

// all are files by rising name, told.
func all(files []api.Pair) string {
	var out []string
	for _, x := range files {
		out = append(out, x.Name+"="+short(x.Value))
	}
	return strings.Join(out, " ")
}

// op is one call of the file system.
type op struct {
	name string
	do   func(f *simfs.FS) api.Errno
}

func create(name string) op {
	return op{"Create " + name, func(f *simfs.FS) api.Errno { return f.Create(name) }}
}

func lay(name, data string) op {
	return op{"Append " + name + " " + short(data), func(f *simfs.FS) api.Errno { return f.Append(name, data) }}
}

func syncFile(name string) op {
	return op{"Sync " + name, func(f *simfs.FS) api.Errno { return f.Sync(name) }}
}

func rename(name, to string) op {
	return op{"Rename " + name + " " + to, func(f *simfs.FS) api.Errno { return f.Rename(name, to) }}
}

func remove(name string) op {
	return op{"Remove " + name, func(f *simfs.FS) api.Errno { return f.Remove(name) }}
}

func syncDir() op {
	return op{"SyncDir", func(f *simfs.FS) api.Errno { return f.SyncDir() }}
}

// must does calls that are all OK.
func must(t testing.TB, f *simfs.FS, ops ...op) {
	t.Helper()
	for _, o := range ops {
		if err := o.do(f); err != api.OK {
			t.Fatalf("%s = %d", o.name, err)
		}
	}
}

// put lays files down, names and texts in turns; nothing of them is safe.
func put(t testing.TB, f *simfs.FS, files ...string) {
	t.Helper()
	for i := 0; i < len(files); i += 2 {
		must(t, f, create(files[i]), lay(files[i], files[i+1]))
	}
}

// disk is a file system on which these files are safe.
func disk(t testing.TB, files ...string) *simfs.FS {
	t.Helper()
	f := simfs.New()
	put(t, f, files...)
	for i := 0; i < len(files); i += 2 {
		must(t, f, syncFile(files[i]))
	}
	must(t, f, syncDir())
	return f
}

// inOne holds a text of a file, and whether it is there.
type inOne struct {
	text  string
	there bool
}

func (x inOne) String() string {
	if !x.there {
		return "none"
	}
	return short(x.text)
}

// under is what files hold under a name.
func under(files []api.Pair, name string) inOne {
	for _, x := range files {
		if x.Name == name {
			return inOne{x.Value, true}
		}
	}
	return inOne{}
}

func liveOf(f *simfs.FS) inOne { return under(f.Now(), "dump.rdb") }

// seen is all that can be seen of a file system without a change.
func seen(f *simfs.FS) string {
	return fmt.Sprintf("up %v, steps %d, now: %s; safe: %s", f.Up(), f.Steps(), all(f.Now()), all(f.Safe()))
}

// alike tells whether two file systems can't be told apart, nor by what a crash with these picks leaves of them.
func alike(f, g *simfs.FS, picks ...[]int) bool {
	if f.Up() != g.Up() || f.Steps() != g.Steps() || !slices.Equal(f.Now(), g.Now()) || !slices.Equal(f.Safe(), g.Safe()) {
		return false
	}
	if !f.Up() {
		return true
	}
	for _, p := range picks {
		a, b := f.Clone(), g.Clone()
		a.Crash(0, p...)
		b.Crash(0, p...)
		if !slices.Equal(a.Now(), b.Now()) {
			return false
		}
	}
	return true
}

// wide are picks that tell apart what changes there were, in which order, and which files had which number.
func wide() [][]int {
	var list [][]int
	for p := range 30 {
		list = append(list, []int{p}, []int{p, 1, 2, 3, 4, 5, 6, 7, 8, 9}, []int{p, 3, 1, 0, 2, 1, 3, 2, 0, 1})
	}
	return list
}

// few are some of them.
func few() [][]int { return [][]int{{2, 1, 2, 1, 2, 1, 2}, {5}, {11, 1, 1, 1, 1, 1, 1}} }

// long is a text of so many bytes, each block of it another, so that no two pieces can be exchanged or cut unseen.
func long(n int, seed byte) string {
	b := make([]byte, n)
	for i := range b {
		b[i] = byte(i) + byte(i>>8)*31 + byte(i>>16)*101 + seed
	}
	return string(b)
}
