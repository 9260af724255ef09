package simfs

import (
	"math"
	"slices"
	"testing"

	"cistern/api"
)

// sixSteps are one of each call that is a step, done by a pair that ready makes.
func sixSteps() []call {
	return []call{create("new"), create("a"), lay("a", "12345"), syncFile("a"), rename("a", "b"), rename("a", "new"), rename("a", "a"), syncDir(), remove("a")}
}

func ready(t *testing.T) *pair {
	t.Helper()
	return newPair(t, create("a"), lay("a", "safe"), syncFile("a"), create("b"), syncDir(), lay("a", "more"), create("c"))
}

// TestP204Fail: each call fails where it is planned, and does nothing then but for a part of what is appended; done again, it is done.
func TestP204Fail(t *testing.T) {
	for _, part := range []int{math.MinInt, -1, 0, 1, 4, 5, 6, math.MaxInt} {
		for _, c := range sixSteps() {
			p := ready(t)
			now, safe := words(p.f.Now()), words(p.f.Safe())
			if c.name == lay("a", "12345").name {
				now[1] += "12345"[:min(max(part, 0), 5)]
			}
			p.ok(fail(1, part))
			p.want(api.ErrIO, c)
			p.holds(now, safe)
			p.counted(8)
			p.isUp(true)
			p.ok(c)
			p.counted(9)
			p.ok(crash(0, 99, 1, 1, 1, 1), start(), list())
		}
	}
}

// TestP204FailWhen: the n-th step from now on, and no other; at the edges of n.
func TestP204FailWhen(t *testing.T) {
	for _, n := range []int{1, 2, 3, 7, 20} {
		p := newPair(t, create("a"), fail(n, 2))
		for i := 1; i <= 25; i++ {
			p.want(api.ErrFile, lay("none", "x"))
			want := api.OK
			if i == n {
				want = api.ErrIO
			}
			p.want(want, lay("a", "xyz"))
		}
	}
	for _, n := range []int{0, -1, -2, math.MinInt, 1<<40 + 1, 1 << 41, math.MaxInt} {
		p := newPair(t)
		p.want(api.ErrArg, fail(n, 0), fail(n, -1), fail(n, 9))
		p.ok(create("a"), syncDir())
		p.counted(2)
	}
	p := newPair(t, fail(1<<40, 0), fail(1<<40-1, 0), create("a"), fail(1<<40, 7), lay("a", "x"))
	for range 50 {
		p.ok(syncDir())
	}
	p.want(api.ErrArg, fail(1<<40+1, 0))
	p.f.steps, p.m.count = 1<<40-3, 1<<40-3
	p.ok(syncDir())
	p.want(api.ErrIO, syncDir(), syncDir(), syncDir())
	p.ok(syncDir())
}

// TestP204FailTwice: of two failures for one step the later one counts, at whatever moments they were planned; a step fails once.
func TestP204FailTwice(t *testing.T) {
	for _, parts := range [][2]int{{1, 3}, {3, 1}, {-1, 2}, {2, -1}, {0, 9}, {9, 0}} {
		now := []string{"a", "wxyz"[:min(max(parts[1], 0), 4)]}
		p := newPair(t, create("a"), fail(1, parts[0]), fail(1, parts[1]))
		p.want(api.ErrIO, lay("a", "wxyz"))
		p.holds(now, nil)
		p.ok(lay("a", "!"))
		p = newPair(t, create("a"), fail(3, parts[0]), syncDir(), fail(2, 7), syncDir(), fail(1, parts[1]))
		p.want(api.ErrIO, lay("a", "wxyz"))
		p.holds(now, []string{"a", ""})
		p.ok(lay("a", "!"))
	}
	p := newPair(t, create("a"), fail(1, 1), fail(1, 2), fail(2, 1), fail(1, 3), fail(2, 2))
	p.want(api.ErrIO, lay("a", "abc"), lay("a", "def"))
	p.holds([]string{"a", "abcde"}, nil)
	p.ok(lay("a", "!"))
}

// TestP204FailMany: several failures for several steps, planned in any order.
func TestP204FailMany(t *testing.T) {
	for _, order := range [][]int{{1, 2, 3}, {3, 2, 1}, {2, 5, 1, 4}, {9, 1, 8, 2, 7}, {4, 4, 2, 2}, {1, 3, 5, 7, 9, 8, 6, 4, 2}} {
		p := newPair(t, create("a"))
		for _, n := range order {
			p.ok(fail(n, n))
		}
		for i := 1; i <= 10; i++ {
			want := api.OK
			if slices.Contains(order, i) {
				want = api.ErrIO
			}
			p.want(want, lay("a", "0123456789"))
		}
	}
	const many = 20000
	f := New()
	f.Create("a")
	for i := range many {
		f.Fail(2*(many-i), 0)
		f.Fail(2*i+1, 1)
	}
	for i := range 2 * many {
		if err := f.Append("a", "xy"); err != api.ErrIO {
			t.Fatalf("step %d: error %d", i+2, err)
		}
	}
	text, err := f.Read("a")
	if len(text) != many || err != api.OK || f.Append("a", "xy") != api.OK {
		t.Errorf("%d bytes, error %d", len(text), err)
	}
}

// TestP204Crash: ahead of each call the machine goes down, and the call does nothing; n at its edges.
func TestP204Crash(t *testing.T) {
	for _, c := range sixSteps() {
		p := ready(t)
		safe := words(p.f.Safe())
		p.ok(crash(1))
		p.isUp(true)
		p.want(api.ErrCrash, c)
		p.isUp(false)
		p.holds(safe, safe)
		p.counted(8)
		p.want(api.ErrCrash, c)
		p.counted(8)
		p.ok(start())
		p.ok(c)
		p.counted(9)
	}
	for _, n := range []int{1, 2, 3, 7, 20} {
		p := newPair(t, create("a"), syncDir(), crash(n, 0, 1))
		for i := 1; i < n; i++ {
			p.ok(lay("a", "xyz"))
			p.want(api.ErrName, create("/"))
		}
		p.want(api.ErrCrash, lay("a", "xyz"), lay("a", "xyz"))
		p.counted(2 + n)
		p.ok(start(), lay("a", "xyz"), syncDir())
	}
	for _, n := range []int{-1, -2, math.MinInt, 1<<40 + 1, 1 << 41, math.MaxInt} {
		p := newPair(t)
		p.want(api.ErrArg, crash(n), crash(n, 1), crash(n, -1, 2, 3))
		p.isUp(true)
		p.ok(create("a"), syncDir())
	}
	p := newPair(t, create("a"), crash(1<<40, 1), syncDir(), syncDir())
	p.want(api.ErrArg, crash(1<<40+1))
	p.f.steps, p.m.count = 1<<40-1, 1<<40-1
	p.ok(lay("a", "x"))
	p.want(api.ErrCrash, lay("a", "x"))
}

// TestP204CrashNow: 0 is now, and OK; it is no step.
func TestP204CrashNow(t *testing.T) {
	p := ready(t)
	safe := words(p.f.Safe())
	p.ok(crash(0))
	p.isUp(false)
	p.counted(7)
	p.holds(safe, safe)
	p.want(api.ErrCrash, crash(0))
	p.ok(start(), crash(0))
	p.isUp(false)
	p.holds(safe, safe)
}

// TestP204CrashAgain: a later Crash takes the place of one that is planned, with its picks, be it sooner or later; a refused one does not.
func TestP204CrashAgain(t *testing.T) {
	for _, c := range []struct {
		first, second call
		after         int
		left          []string
	}{
		{crash(2, 1), crash(4, 0), 4, nil},
		{crash(4, 0), crash(2, 1), 2, []string{"a", ""}},
		{crash(2, 0), crash(2, 1), 2, []string{"a", ""}},
		{crash(2, 1), crash(2), 2, nil},
	} {
		p := newPair(t, create("a"), c.first, c.second)
		p.want(api.ErrArg, crash(-1, 1), crash(1<<40+1, 1))
		for range c.after - 1 {
			p.ok(lay("a", "x"))
		}
		p.want(api.ErrCrash, lay("a", "x"))
		p.holds(c.left, c.left)
		p.ok(start())
		for range 9 {
			p.ok(create("b"))
		}
	}
	p := newPair(t, create("a"), crash(3, 1), crash(0), start())
	p.holds(nil, nil)
	for range 9 {
		p.ok(create("b"))
	}
	p = newPair(t, create("a"), crash(5), syncDir(), crash(5), syncDir(), crash(5), lay("a", "1"), lay("a", "2"), lay("a", "3"), lay("a", "4"))
	p.want(api.ErrCrash, lay("a", "5"))
}

// TestP204CrashAndFailure: for one step the crash comes, whichever was planned first.
func TestP204CrashAndFailure(t *testing.T) {
	for _, plans := range [][]call{
		{crash(2, 0, 9), fail(2, 1)}, {fail(2, 1), crash(2, 0, 9)}, {fail(2, 1), crash(2, 0, 9), fail(2, 2)}, {fail(2, 3), fail(3, 3), crash(1), crash(2, 0, 9), fail(4, 4)},
	} {
		p := newPair(t, create("a"), lay("a", "123456789"), syncDir())
		p.ok(plans...)
		p.ok(syncDir())
		p.want(api.ErrCrash, lay("a", "xyz"))
		p.holds([]string{"a", "123456789"}, []string{"a", "123456789"})
		p.ok(start())
		for range 5 {
			p.ok(lay("a", "xyz"))
		}
	}
	p := newPair(t, create("a"), fail(1, 2), crash(2))
	p.want(api.ErrIO, lay("a", "xyz"))
	p.want(api.ErrCrash, lay("a", "xyz"))
	p = newPair(t, create("a"), fail(1, 2), crash(1), crash(3))
	p.want(api.ErrIO, lay("a", "xyz"))
	p.ok(lay("a", "xyz"))
	p.want(api.ErrCrash, lay("a", "xyz"))
}

// TestP204NothingBehindACrash: what was planned is gone behind a crash, whether it was planned or came now.
func TestP204NothingBehindACrash(t *testing.T) {
	p := newPair(t, create("a"), syncDir(), fail(3, 1), fail(1, 1), fail(2, 0), fail(9, 0), crash(2))
	p.want(api.ErrIO, lay("a", "xy"))
	p.want(api.ErrCrash, lay("a", "xy"))
	p.ok(start())
	for range 12 {
		p.ok(lay("a", "xy"))
	}
	p.ok(fail(1, 0), fail(2, 0), crash(3), crash(0), start())
	for range 12 {
		p.ok(lay("a", "xy"))
	}
	p.ok(crash(0), start(), fail(1, 1))
	p.want(api.ErrIO, lay("a", "xy"))
	p.ok(crash(1))
	p.want(api.ErrCrash, syncDir())
}

// TestP204Picks: what is handed in stays as it is, and what becomes of it later changes nothing.
func TestP204Picks(t *testing.T) {
	p := newPair(t, create("a"), lay("a", "wxyz"), create("b"))
	for _, n := range []int{0, 1} {
		q := p.clone()
		picks := append(make([]int, 0, 9), 1, 2, 3)
		q.f.Crash(n, picks...)
		q.m.Crash(n, picks...)
		if !slices.Equal(picks[:9], []int{1, 2, 3, 0, 0, 0, 0, 0, 0}) {
			t.Errorf("Crash(%d): the picks are %v now", n, picks[:9])
		}
		for i := range picks[:9] {
			picks[:9][i] = 4
		}
		if n == 1 {
			q.want(api.ErrCrash, syncDir())
		}
		q.look()
		q.holds([]string{"a", "wx"}, []string{"a", "wx"})
		if !slices.Equal(picks, []int{4, 4, 4}) {
			t.Errorf("the picks are %v behind the crash", picks)
		}
	}
}
