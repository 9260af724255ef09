package simfs

import (
	"runtime"
	"strings"
	"testing"

	"cistern/api"
)

// TestExamples: those of the chapter.
func TestExamples(t *testing.T) {
	p := newPair(t, create("a"), lay("a", "xyz"), syncFile("a"), lay("a", "w"))
	p.holds([]string{"a", "xyzw"}, nil)
	for _, c := range []struct {
		crash call
		left  []string
	}{{crash(0), nil}, {crash(0, 1), []string{"a", "xyz"}}, {crash(0, 1, 1), []string{"a", "xyzw"}}} {
		q := p.clone()
		q.ok(c.crash)
		q.holds(c.left, c.left)
	}
	p = newPair(t, create("d"), lay("d", "old"), syncFile("d"), syncDir(), create("t"), lay("t", "new"), syncFile("t"), rename("t", "d"))
	for _, c := range []struct {
		crash call
		left  []string
	}{{crash(0), []string{"d", "old"}}, {crash(0, 1), []string{"d", "old", "t", "new"}}, {crash(0, 2), []string{"d", "new"}}} {
		q := p.clone()
		q.ok(c.crash)
		q.holds(c.left, c.left)
	}
	p = newPair(t, fail(2, 1), create("a"))
	p.want(api.ErrIO, lay("a", "xy"))
	p.holds([]string{"a", "x"}, nil)
	p.want(api.ErrName, create("a/b"))
	p.counted(2)
}

// TestP202Create: an empty file under a name, in the place of one that stood there.
func TestP202Create(t *testing.T) {
	p := newPair(t, create("a"))
	p.holds([]string{"a", ""}, nil)
	p.ok(lay("a", "old"), syncFile("a"), syncDir())
	p.holds([]string{"a", "old"}, []string{"a", "old"})
	p.ok(create("a"))
	p.holds([]string{"a", ""}, []string{"a", "old"})
	p.ok(lay("a", "new"), syncFile("a"))
	p.holds([]string{"a", "new"}, []string{"a", "old"})
	p.ok(syncDir())
	p.holds([]string{"a", "new"}, []string{"a", "new"})
	p.ok(create("b"), create("B"), create("-"), create("0"), list())
	p.holds([]string{"-", "", "0", "", "B", "", "a", "new", "b", ""}, []string{"a", "new"})
	p.counted(12)
}

// TestP202Append: bytes of all sorts and sizes behind those that are there.
func TestP202Append(t *testing.T) {
	p := newPair(t, create("a"), lay("a", ""))
	p.holds([]string{"a", ""}, nil)
	p.ok(lay("a", "x"), lay("a", ""), lay("a", "\x00\xff\n"), syncFile("a"), lay("a", "é"), syncDir())
	p.holds([]string{"a", "x\x00\xff\né"}, []string{"a", "x\x00\xff\n"})
	p.counted(8)
	p.ok(create("b"), lay("b", strings.Repeat("0123456789", 20000)), lay("a", "end"))
	want := ""
	for i := range 300 {
		piece := strings.Repeat(named("%d,", i), i)
		want += piece
		if p.f.Append("b", piece) != api.OK || p.m.Append("b", piece) != api.OK {
			t.Fatalf("piece %d", i)
		}
	}
	p.look()
	if text, err := p.f.Read("b"); err != api.OK || text != strings.Repeat("0123456789", 20000)+want {
		t.Errorf("Read b: %s, error %d", short(text), err)
	}
}

// TestP202Long: up to MaxFile bytes and one more; what is too long is no step, whatever is planned, even where the planned part would not be.
func TestP202Long(t *testing.T) {
	f := New()
	big := strings.Repeat("0123456789abcdef", api.MaxFile/16+1)[:api.MaxFile+1]
	ask := func(want api.Errno, steps int, name, data string) {
		t.Helper()
		if got := f.Append(name, data); got != want || f.Steps() != steps {
			t.Fatalf("Append of %d bytes: error %d, step %d; want error %d, step %d", len(data), got, f.Steps(), want, steps)
		}
	}
	f.Create("a")
	ask(api.ErrName, 1, "a/b", big)
	ask(api.ErrFile, 1, "none", big)
	ask(api.ErrLong, 1, "a", big)
	f.Fail(1, 5)
	ask(api.ErrLong, 1, "a", big)
	ask(api.ErrIO, 2, "a", big[:api.MaxFile])
	ask(api.ErrLong, 2, "a", big[5:])
	ask(api.OK, 3, "a", big[5:api.MaxFile-2])
	ask(api.ErrLong, 3, "a", "yyy")
	f.Fail(1, 1)
	ask(api.ErrIO, 4, "a", "yy")
	f.Crash(1)
	ask(api.ErrLong, 4, "a", "zz")
	f.Crash(2)
	ask(api.OK, 5, "a", "z")
	f.Crash(9)
	f.Fail(1, 1)
	ask(api.ErrLong, 5, "a", "x")
	ask(api.ErrIO, 6, "a", "")
	ask(api.OK, 7, "a", "")
	ask(api.ErrLong, 7, "a", "x")
	ask(api.ErrLong, 7, "a", big)
	f.Create("b")
	ask(api.OK, 9, "b", "x")
	big = "" // its memory is enough for what is read
	runtime.GC()
	text, err := f.Read("a")
	if err != api.OK || len(text) != api.MaxFile || text[:7] != "0123456" || text[api.MaxFile-4:] != "cdyz" {
		t.Errorf("Read: %d bytes, error %d", len(text), err)
	}
}

// TestP202Sync: the bytes that are there are safe, those of that file alone, whatever becomes of its name.
func TestP202Sync(t *testing.T) {
	p := newPair(t, create("a"), create("b"), syncDir(), lay("a", "aa"), lay("b", "bb"))
	p.holds([]string{"a", "aa", "b", "bb"}, []string{"a", "", "b", ""})
	p.ok(syncFile("a"))
	p.holds([]string{"a", "aa", "b", "bb"}, []string{"a", "aa", "b", ""})
	p.ok(lay("a", "AA"), syncFile("b"))
	p.holds([]string{"a", "aaAA", "b", "bb"}, []string{"a", "aa", "b", "bb"})
	p.ok(syncFile("a"), syncFile("a"))
	p.holds([]string{"a", "aaAA", "b", "bb"}, []string{"a", "aaAA", "b", "bb"})
	p.ok(create("c"), syncFile("c"), lay("c", "c"), syncFile("c"))
	p.holds([]string{"a", "aaAA", "b", "bb", "c", "c"}, []string{"a", "aaAA", "b", "bb"})
	p.counted(14)
}

// TestP202Rename: onto a free name, onto one that is there, onto itself.
func TestP202Rename(t *testing.T) {
	p := newPair(t, create("a"), lay("a", "aa"), syncFile("a"), create("b"), lay("b", "bb"), syncDir(), rename("a", "c"))
	p.holds([]string{"b", "bb", "c", "aa"}, []string{"a", "aa", "b", ""})
	p.ok(lay("c", "cc"), rename("c", "b"))
	p.holds([]string{"b", "aacc"}, []string{"a", "aa", "b", ""})
	p.want(api.ErrFile, rename("c", "b"), rename("a", "b"), rename("a", "a"))
	p.ok(rename("b", "b"))
	p.holds([]string{"b", "aacc"}, []string{"a", "aa", "b", ""})
	p.counted(10)
	for picked, left := range [][]string{
		{"a", "aac", "b", "bb"}, {"b", "bb", "c", "aac"}, {"b", "aac"}, {"b", "aac"}, {"a", "aac", "b", "bb"},
	} {
		q := p.clone()
		q.ok(crash(0, picked, 1, 2))
		q.holds(left, left)
	}
	p.want(api.ErrName, rename("b", ""), rename("", "b"), rename("b", "."), rename("..", "b"), rename("b", strings.Repeat("x", 65)))
	p.ok(rename("b", strings.Repeat("x", 64)), rename(strings.Repeat("x", 64), "z"))
	p.holds([]string{"z", "aacc"}, []string{"a", "aa", "b", ""})
}

// TestP202SameName: a rename onto the same name is a change for which a pick counts.
func TestP202SameName(t *testing.T) {
	p := newPair(t, create("a"), syncDir(), rename("a", "a"), create("b"))
	for picked, left := range [][]string{{"a", ""}, {"a", ""}, {"a", "", "b", ""}, {"a", ""}} {
		q := p.clone()
		q.ok(crash(0, picked))
		q.holds(left, left)
	}
}

// TestP202Remove: nothing stands under the name; a new file there has nothing of the old one.
func TestP202Remove(t *testing.T) {
	p := newPair(t, create("a"), lay("a", "old"), syncFile("a"), syncDir(), remove("a"))
	p.holds(nil, []string{"a", "old"})
	p.want(api.ErrFile, remove("a"), read("a"))
	p.counted(5)
	p.ok(create("a"))
	p.holds([]string{"a", ""}, []string{"a", "old"})
	p.ok(lay("a", "new"), syncFile("a"))
	p.holds([]string{"a", "new"}, []string{"a", "old"})
	for picked, left := range [][]string{{"a", "old"}, nil, {"a", "new"}, {"a", "old"}} {
		q := p.clone()
		q.ok(crash(0, picked))
		q.holds(left, left)
	}
	p.ok(syncDir(), remove("a"), syncDir())
	p.holds(nil, nil)
	p.ok(crash(0, 9, 9, 9))
	p.holds(nil, nil)
}

// TestP202SyncDir: the safe directory is that of now, with the safe bytes alone; the bytes themselves are not made safe.
func TestP202SyncDir(t *testing.T) {
	p := newPair(t, syncDir(), create("a"), lay("a", "xy"), syncDir())
	p.holds([]string{"a", "xy"}, []string{"a", ""})
	p.ok(syncDir(), rename("a", "b"), create("a"), syncDir())
	p.holds([]string{"a", "", "b", "xy"}, []string{"a", "", "b", ""})
	p.ok(remove("b"))
	p.holds([]string{"a", ""}, []string{"a", "", "b", ""})
	p.ok(syncDir(), create("c"))
	p.holds([]string{"a", "", "c", ""}, []string{"a", ""})
	p.ok(crash(0))
	p.holds([]string{"a", ""}, []string{"a", ""})
}

// TestP203Read: the bytes under a name, all names by rising text; neither is a step, nor meets what is planned.
func TestP203Read(t *testing.T) {
	p := newPair(t, create("b"), create("a"), create("ab"), create("B"), create("a-"), create("a.b"), create("_"), create("10"), create("9"))
	p.ok(lay("a", "bytes"), fail(1, 0), crash(2))
	for range 5 {
		p.ok(read("a"), list())
		p.want(api.ErrFile, read("none"))
		p.want(api.ErrName, read("/"))
	}
	p.counted(10)
	if text, err := p.f.Read("a"); text != "bytes" || err != api.OK {
		t.Errorf("Read: %q, error %d", text, err)
	}
	names, err := p.f.List()
	if got := strings.Join(names, " "); got != "10 9 B _ a a- a.b ab b" || err != api.OK {
		t.Errorf("List: %s, error %d", got, err)
	}
	p.want(api.ErrIO, lay("a", "x"))
	p.want(api.ErrCrash, lay("a", "x"))
}

// TestP206OneFileTwoNames: a file that stands under one name now and under another one in the safe directory.
func TestP206OneFileTwoNames(t *testing.T) {
	p := newPair(t, create("z"), lay("z", "one"), syncFile("z"), create("m"), syncDir(), rename("z", "a"))
	p.holds([]string{"a", "one", "m", ""}, []string{"m", "", "z", "one"})
	p.ok(lay("a", "two"))
	p.holds([]string{"a", "onetwo", "m", ""}, []string{"m", "", "z", "one"})
	p.ok(syncFile("a"))
	p.holds([]string{"a", "onetwo", "m", ""}, []string{"m", "", "z", "onetwo"})
	p.ok(create("z"), lay("z", "other"), lay("a", "three"))
	p.holds([]string{"a", "onetwothree", "m", "", "z", "other"}, []string{"m", "", "z", "onetwo"})
	if p.f.now["a"] != p.f.safe["z"] || p.f.now["z"] == p.f.safe["z"] {
		t.Error("the file under a is not the one under z")
	}
	p.ok(crash(0, 0, 2))
	p.holds([]string{"m", "", "z", "onetwoth"}, []string{"m", "", "z", "onetwoth"})
}

// TestP202Counted: which calls are steps.
func TestP202Counted(t *testing.T) {
	p := newPair(t)
	n := 0
	for _, c := range []struct {
		call  call
		steps int
		err   api.Errno
	}{
		{create("a"), 1, api.OK}, {create("a"), 1, api.OK}, {create(""), 0, api.ErrName},
		{lay("a", "x"), 1, api.OK}, {lay("a", ""), 1, api.OK}, {lay("b", "x"), 0, api.ErrFile}, {lay("/", "x"), 0, api.ErrName},
		{syncFile("a"), 1, api.OK}, {syncFile("b"), 0, api.ErrFile}, {syncFile("/"), 0, api.ErrName},
		{rename("a", "b"), 1, api.OK}, {rename("b", "b"), 1, api.OK}, {rename("a", "b"), 0, api.ErrFile}, {rename("b", "/"), 0, api.ErrName},
		{syncDir(), 1, api.OK}, {syncDir(), 1, api.OK},
		{read("b"), 0, api.OK}, {read("a"), 0, api.ErrFile}, {list(), 0, api.OK}, {start(), 0, api.ErrArg},
		{fail(1, 0), 0, api.OK}, {remove("b"), 1, api.ErrIO}, {remove("b"), 1, api.OK}, {remove("b"), 0, api.ErrFile}, {remove("/"), 0, api.ErrName},
		{crash(1), 0, api.OK}, {syncDir(), 1, api.ErrCrash}, {syncDir(), 0, api.ErrCrash}, {create("a"), 0, api.ErrCrash},
		{start(), 0, api.OK}, {crash(0), 0, api.OK}, {start(), 0, api.OK}, {fail(0, 0), 0, api.ErrArg}, {crash(-1), 0, api.ErrArg},
	} {
		p.want(c.err, c.call)
		n += c.steps
		p.counted(n)
	}
}
