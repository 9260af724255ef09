package simfs

import (
	"fmt"
	"maps"
	"math"
	"slices"
	"strings"
	"testing"

	"cistern/api"
)

// TestPickedChanges: of the changes the first so many, modulo one more than there are.
func TestPickedChanges(t *testing.T) {
	p := newPair(t, create("old"), syncDir(), create("a"), rename("a", "b"), remove("old"), create("a"), rename("b", "a"))
	steps := [][]string{
		{"old"}, {"a", "old"}, {"b", "old"}, {"b"}, {"a", "b"}, {"a"},
	}
	for picked := -3; picked < 30; picked++ {
		q := p.clone()
		q.ok(crash(0, picked), start())
		names, _ := q.f.List()
		if want := steps[max(picked, 0)%6]; !slices.Equal(names, want) {
			t.Errorf("pick %d: %q; want %q", picked, names, want)
		}
	}
	for _, picked := range []int{math.MinInt, math.MinInt + 1, math.MaxInt, math.MaxInt - 1, 1 << 40} {
		q := p.clone()
		q.ok(crash(0, picked), start())
		names, _ := q.f.List()
		if want := steps[max(picked, 0)%6]; !slices.Equal(names, want) {
			t.Errorf("pick %d: %q; want %q", picked, names, want)
		}
	}
	p.ok(crash(0), start(), crash(0, 5))
	p.holds([]string{"old", ""}, []string{"old", ""})
}

// TestPickedBytes: of a file its safe bytes and so many behind them, modulo one more than there are.
func TestPickedBytes(t *testing.T) {
	p := newPair(t, create("a"), create("b"), create("c"), lay("a", "12"), syncFile("a"), lay("a", "345"), lay("a", "6"), lay("b", "xyz"), lay("c", "!"), syncFile("c"), syncDir())
	for picked := -3; picked < 25; picked++ {
		q := p.clone()
		q.ok(crash(0, 7, picked, 24-picked, picked))
		a := "123456"[:2+max(picked, 0)%5]
		b := "xyz"[:max(24-picked, 0)%4]
		left := []string{"a", a, "b", b, "c", "!"}
		q.holds(left, left)
		q.ok(start(), lay("a", "+"), lay("b", "+"))
		q.holds([]string{"a", a + "+", "b", b + "+", "c", "!"}, left)
		q.ok(crash(0))
		q.holds(left, left)
	}
	for _, picked := range []int{math.MinInt, math.MaxInt, math.MaxInt - 1, 1 << 40} {
		q := p.clone()
		q.ok(crash(0, picked, picked, picked, picked))
	}
}

// TestPicksTooFew: those that are not there count as 0, those that are too many count for nothing.
func TestPicksTooFew(t *testing.T) {
	p := newPair(t, create("a"), lay("a", "xy"), create("b"), lay("b", "z"), syncDir(), remove("b"))
	for _, c := range []struct {
		picks []int
		left  []string
	}{
		{nil, []string{"a", "", "b", ""}},
		{[]int{0}, []string{"a", "", "b", ""}},
		{[]int{1}, []string{"a", ""}},
		{[]int{1, 1}, []string{"a", "x"}},
		{[]int{0, 2}, []string{"a", "xy", "b", ""}},
		{[]int{0, 0, 1}, []string{"a", "", "b", "z"}},
		{[]int{-1, -1, -1}, []string{"a", "", "b", ""}},
		{[]int{0, 2, 1, 5, 6, 7, 8, -9}, []string{"a", "xy", "b", "z"}},
		{slices.Repeat([]int{1}, 1000), []string{"a", "x"}},
		{append([]int{2, 3, 2}, make([]int, 100)...), []string{"a", "", "b", ""}},
	} {
		q := p.clone()
		q.ok(crash(0, c.picks...))
		q.holds(c.left, c.left)
		q = p.clone()
		q.ok(crash(1, c.picks...))
		q.want(api.ErrCrash, syncDir())
		q.holds(c.left, c.left)
	}
}

// TestFilesInOrder: files have their picks in the order in which they were created, whatever their names are now, be they lost or not; one whose Create failed is none.
func TestFilesInOrder(t *testing.T) {
	p := newPair(t, create("z"), create("m"), create("gone"), remove("gone"), create("a"), rename("z", "y"), rename("m", "z"))
	for _, name := range []string{"y", "z", "a"} {
		p.ok(lay(name, "123456789"))
	}
	p.ok(syncDir())
	q := p.clone()
	q.ok(crash(0, 0, 1, 2, 3, 4))
	q.holds([]string{"a", "1234", "y", "1", "z", "12"}, []string{"a", "1234", "y", "1", "z", "12"})
	q = p.clone()
	q.ok(fail(1, 0))
	q.want(api.ErrIO, create("b"))
	q.want(api.ErrName, create("/"))
	q.ok(create("b"), lay("b", "abcdefgh"), syncDir(), crash(1, 0, 1, 1, 1, 1, 5))
	q.want(api.ErrCrash, create("c"))
	q.holds([]string{"a", "1", "b", "abcde", "y", "1", "z", "1"}, []string{"a", "1", "b", "abcde", "y", "1", "z", "1"})
	q.ok(start(), create("lost"), crash(0), start(), create("c"), lay("c", "abcdefgh"), lay("z", "!?"), syncDir(), crash(0, 0, 0, 1, 9, 9, 9, 9, 3))
	q.holds([]string{"a", "1", "b", "abcde", "c", "abc", "y", "1", "z", "1!"}, []string{"a", "1", "b", "abcde", "c", "abc", "y", "1", "z", "1!"})
}

// TestFilesComeBack: a file that no name stands for any more comes back by a crash, with what was done to it last.
func TestFilesComeBack(t *testing.T) {
	p := newPair(t, create("a"), lay("a", "one"), syncFile("a"), syncDir(), lay("a", "two"), remove("a"))
	p.holds(nil, []string{"a", "one"})
	q := p.clone()
	q.ok(crash(0, 0, 2), start(), lay("a", "!"))
	q.holds([]string{"a", "onetw!"}, []string{"a", "onetw"})
	q = p.clone()
	q.ok(create("a"), lay("a", "second"), create("a"), lay("a", "third"))
	for picked, left := range [][]string{{"a", "onet"}, nil, {"a", "se"}, {"a", "thi"}} {
		r := q.clone()
		r.ok(crash(0, picked, 1, 2, 3), start())
		r.holds(left, left)
	}
	q.ok(syncDir(), crash(0, 1, 1, 2, 3))
	q.holds([]string{"a", "thi"}, []string{"a", "thi"})
	p = newPair(t, create("a"), lay("a", "x"), create("b"), lay("b", "y"), rename("a", "b"), crash(0, 2, 1, 1))
	p.holds([]string{"a", "x", "b", "y"}, []string{"a", "x", "b", "y"})
	p.ok(start(), rename("b", "a"), crash(0))
	p.holds([]string{"a", "x", "b", "y"}, []string{"a", "x", "b", "y"})
}

// TestEverySurvivor: all picks lead to all that may survive, and to nothing else.
func TestEverySurvivor(t *testing.T) {
	p := newPair(t, create("d"), lay("d", "old"), syncFile("d"), syncDir(), create("t"), lay("t", "ne"), syncFile("t"), lay("t", "w"), lay("d", "er"), rename("t", "d"))
	want := map[string]bool{}
	for _, d := range []string{"old", "olde", "older"} {
		want["[d "+d+"]"] = true
		for _, n := range []string{"ne", "new"} {
			want["[d "+d+" t "+n+"]"], want["[d "+n+"]"] = true, true
		}
	}
	got := map[string]bool{}
	for i := range 6 * 6 * 6 {
		q := p.clone()
		q.ok(crash(0, i%6, i/6%6, i/36))
		got[fmt.Sprint(words(q.f.Now()))] = true
	}
	if !maps.Equal(got, want) {
		t.Errorf("%v survive; want %v", got, want)
	}
}

// TestP5WholeOrNot: a file that is written under another name, synced and renamed is there whole or not at all, ahead of whatever step the machine goes down, whatever is picked; behind SyncDir it stays.
func TestP5WholeOrNot(t *testing.T) {
	save := []call{create("t"), lay("t", "ne"), lay("t", "w"), syncFile("t"), rename("t", "d"), syncDir()}
	for down := 1; down <= len(save)+1; down++ {
		for i := range 3 * 6 * 6 {
			p := newPair(t, create("d"), lay("d", "old"), syncFile("d"), syncDir(), crash(down, i%3, i/3%6, i/18))
			p.ok(save[:down-1]...)
			p.want(api.ErrCrash, append(save, syncDir())[down-1])
			p.ok(start())
			got, err := p.f.Read("d")
			if err != api.OK || got != "old" && got != "new" || down <= 5 && got != "old" || down == 7 && got != "new" {
				p.failed("Read(d)", got, "old, or new")
			}
		}
	}
}

// survives is P20.7's first sentence, of a crash that the model has ahead of it: each name stood for a file in some directory since the last SyncDir, and has that file's safe bytes and a beginning of what came behind them.
func survives(m *model, left []api.Pair) error {
	for _, x := range left {
		may := slices.ContainsFunc(m.dirs, func(d map[string]int) bool {
			place, ok := d[x.Name]
			if !ok {
				return false
			}
			f := m.files[place]
			return strings.HasPrefix(x.Value, f.text[:f.safe]) && strings.HasPrefix(f.text, x.Value)
		})
		if !may {
			return fmt.Errorf("%s has %q", x.Name, x.Value)
		}
	}
	return nil
}

// settled tells whether all bytes of all files are safe, and no change was made since SyncDir.
func settled(m *model) bool {
	return len(m.dirs) == 1 && !slices.ContainsFunc(m.files, func(x body) bool { return x.safe < len(x.text) })
}

// crashed holds P20.7's sentences against a pair and picks: of a clone that goes down now, and of one that goes down ahead of its next step.
func crashed(p *pair, picks ...int) {
	p.t.Helper()
	for n := range 2 {
		q := p.clone()
		now, safe := q.f.Now(), q.f.Safe()
		q.ok(crash(n, picks...))
		if n == 1 {
			q.want(api.ErrCrash, create("temp"))
		}
		left := q.f.Now()
		if err := survives(p.m, left); err != nil {
			q.failed("the first sentence", err, nil)
		}
		if len(picks) == 0 && !slices.Equal(left, safe) {
			q.failed("the second sentence", left, safe)
		}
		if settled(p.m) && !slices.Equal(left, now) {
			q.failed("the third sentence", left, now)
		}
		if !slices.Equal(left, q.f.Safe()) {
			q.failed("Safe behind a crash", q.f.Safe(), left)
		}
	}
}

// TestP207EveryOrder: all orders of some calls on two names, each held against the model, with crashes of several picks behind each call.
func TestP207EveryOrder(t *testing.T) {
	calls := []call{create("a"), create("b"), lay("a", "xy"), lay("b", "z"), syncFile("a"), syncFile("b"), rename("a", "b"), rename("b", "a"), syncDir(), remove("a"), remove("b")}
	picks := [][]int{nil, {1}, {2, 1, 1}, {3, 0, 2, 1}, {0, 1, 1, 1, 1}, {-1, 5, -1, 5}}
	visits := 0
	var walk func(p *pair, depth int)
	walk = func(p *pair, depth int) {
		visits++
		for _, l := range picks {
			crashed(p, l...)
		}
		if depth == 0 {
			return
		}
		for _, c := range calls {
			q := p.clone()
			if q.ask(c) == api.OK { // behind a refused call all is as it was
				walk(q, depth-1)
			}
		}
	}
	walk(newPair(t), 5)
	if visits < 5000 {
		t.Errorf("%d orders only", visits)
	}
	for _, begin := range [][]call{
		{create("a"), lay("a", "safe"), syncFile("a"), syncDir()},
		{create("a"), lay("a", "one"), create("b"), lay("b", "two"), syncFile("b"), syncDir(), rename("a", "b")},
	} {
		walk(newPair(t, begin...), 3)
	}
}
