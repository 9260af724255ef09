package simfs

import (
	"fmt"
	"slices"
	"strings"
	"testing"

	"cistern/api"
)

// target is what both an FS and the model are asked.
type target interface {
	Create(name string) api.Errno
	Append(name string, data string) api.Errno
	Sync(name string) api.Errno
	Rename(name string, to string) api.Errno
	SyncDir() api.Errno
	Remove(name string) api.Errno
	Read(name string) (string, api.Errno)
	List() ([]string, api.Errno)
	Fail(n int, part int) api.Errno
	Crash(n int, picks ...int) api.Errno
	Start() api.Errno
	Up() bool
	Steps() int
	Now() []api.Pair
	Safe() []api.Pair
}

// answer is what a call answered: a list is one text, as no name has a '/' in it.
type answer struct {
	text string
	err  api.Errno
}

func (a answer) String() string { return fmt.Sprintf("%s, error %d", short(a.text), a.err) }

func short(s string) string {
	if len(s) > 100 {
		return fmt.Sprintf("%d bytes of %q", len(s), s[:10])
	}
	return fmt.Sprintf("%q", s)
}

// call is one that an FS and the model are both asked.
type call struct {
	name string
	do   func(x target) answer
}

func named(format string, args ...any) string { return fmt.Sprintf(format, args...) }

func create(name string) call {
	return call{named("Create(%s)", short(name)), func(x target) answer { return answer{err: x.Create(name)} }}
}

func lay(name, data string) call {
	return call{named("Append(%s, %s)", short(name), short(data)), func(x target) answer { return answer{err: x.Append(name, data)} }}
}

func syncFile(name string) call {
	return call{named("Sync(%s)", short(name)), func(x target) answer { return answer{err: x.Sync(name)} }}
}

func rename(name, to string) call {
	return call{named("Rename(%s, %s)", short(name), short(to)), func(x target) answer { return answer{err: x.Rename(name, to)} }}
}

func syncDir() call {
	return call{"SyncDir()", func(x target) answer { return answer{err: x.SyncDir()} }}
}

func remove(name string) call {
	return call{named("Remove(%s)", short(name)), func(x target) answer { return answer{err: x.Remove(name)} }}
}

func read(name string) call {
	return call{named("Read(%s)", short(name)), func(x target) answer {
		text, err := x.Read(name)
		return answer{text, err}
	}}
}

func list() call {
	return call{"List()", func(x target) answer {
		names, err := x.List()
		return answer{strings.Join(names, "/"), err}
	}}
}

func fail(n, part int) call {
	return call{named("Fail(%d, %d)", n, part), func(x target) answer { return answer{err: x.Fail(n, part)} }}
}

func crash(n int, picks ...int) call {
	return call{named("Crash(%d, %v)", n, picks), func(x target) answer { return answer{err: x.Crash(n, picks...)} }}
}

func start() call {
	return call{"Start()", func(x target) answer { return answer{err: x.Start()} }}
}

// pair is an FS and the model, of which the same is asked.
type pair struct {
	t     testing.TB
	f     *FS
	m     *model
	asked []string
}

// newPair is a pair of which some calls have been asked, all of them OK.
func newPair(t testing.TB, calls ...call) *pair {
	t.Helper()
	p := &pair{t: t, f: New(), m: newModel()}
	p.look()
	p.ok(calls...)
	return p
}

func (p *pair) clone() *pair {
	return &pair{t: p.t, f: p.f.Clone(), m: p.m.clone(), asked: append(slices.Clip(p.asked), "Clone()")}
}

func (p *pair) failed(what string, got, want any) {
	p.t.Helper()
	p.t.Fatalf("behind %s:\n%s = %v; want %v", strings.Join(p.asked[max(0, len(p.asked)-40):], "\n"), what, got, want)
}

// ask asks a call, and holds its answer and all that can be seen behind it against the model's.
func (p *pair) ask(c call) api.Errno {
	p.t.Helper()
	got, want := c.do(p.f), c.do(p.m)
	if got != want {
		p.failed(c.name, got, want)
	}
	p.asked = append(p.asked, fmt.Sprintf("%s = %v", c.name, got))
	p.look()
	return got.err
}

// want asks a call and holds its answer against what is written out here as well.
func (p *pair) want(err api.Errno, calls ...call) {
	p.t.Helper()
	for _, c := range calls {
		if got := p.ask(c); got != err {
			p.failed(c.name, got, err)
		}
	}
}

func (p *pair) ok(calls ...call) {
	p.t.Helper()
	p.want(api.OK, calls...)
}

// look holds all that can be seen without a change against the model.
func (p *pair) look() {
	p.t.Helper()
	for _, c := range []call{list(), read("none"), read("")} {
		p.same(c)
	}
	for _, x := range p.m.Now() {
		p.same(read(x.Name))
	}
	if p.f.Up() != p.m.Up() || p.f.Steps() != p.m.Steps() {
		p.failed("Up and Steps", told(p.f.Up(), p.f.Steps()), told(p.m.Up(), p.m.Steps()))
	}
	if got, want := p.f.Now(), p.m.Now(); !slices.Equal(got, want) {
		p.failed("Now", got, want)
	}
	if got, want := p.f.Safe(), p.m.Safe(); !slices.Equal(got, want) {
		p.failed("Safe", got, want)
	}
}

func (p *pair) same(c call) {
	p.t.Helper()
	if got, want := c.do(p.f), c.do(p.m); got != want {
		p.failed(c.name, got, want)
	}
}

func told(things ...any) string { return fmt.Sprint(things...) }

// holds looks at Now and Safe against what is written out here: names and bytes in turns.
func (p *pair) holds(now, safe []string) {
	p.t.Helper()
	if got := words(p.f.Now()); !slices.Equal(got, now) {
		p.failed("Now", got, now)
	}
	if got := words(p.f.Safe()); !slices.Equal(got, safe) {
		p.failed("Safe", got, safe)
	}
}

func words(pairs []api.Pair) []string {
	var out []string
	for _, x := range pairs {
		out = append(out, x.Name, x.Value)
	}
	return out
}

// counted looks at how many steps there have been.
func (p *pair) counted(n int) {
	p.t.Helper()
	if p.f.Steps() != n {
		p.failed("Steps", p.f.Steps(), n)
	}
}

// isUp looks at whether the machine is up.
func (p *pair) isUp(up bool) {
	p.t.Helper()
	if p.f.Up() != up {
		p.failed("Up", p.f.Up(), up)
	}
}

// mix gives numbers that look as if by chance, the same ones each time.
type mix uint64

func (m *mix) below(n int) int {
	*m ^= *m << 13
	*m ^= *m >> 7
	*m ^= *m << 17
	return int(uint64(*m) >> 1 % uint64(n))
}

// of is one of the given.
func of[T any](m *mix, list ...T) T { return list[m.below(len(list))] }
