package simfs

import (
	"math"
	"strings"
	"testing"

	"cistern/api"
)

// withName are all calls that take a name, each with that name at its place; the file "there" is there.
func withName(name string) []call {
	return []call{create(name), lay(name, "x"), syncFile(name), rename(name, "to"), rename("there", name), remove(name), read(name)}
}

// withFile are those of them that need a file under the name.
func withFile(name string) []call {
	return []call{lay(name, "x"), syncFile(name), rename(name, "to"), remove(name), read(name)}
}

// TestP201New: up, no files, no steps; two of them have nothing to do with one another.
func TestP201New(t *testing.T) {
	p := newPair(t)
	p.isUp(true)
	p.counted(0)
	p.holds(nil, nil)
	p.ok(list())
	if names, err := p.f.List(); len(names) != 0 || err != api.OK {
		t.Errorf("List of nothing: %q, error %d", names, err)
	}
	p.want(api.ErrFile, withFile("a")...)
	p.want(api.ErrArg, start())
	p.counted(0)
	p.ok(syncDir())
	p.counted(1)
	other := newPair(t)
	p.ok(create("a"), lay("a", "x"), fail(1, 0), crash(2))
	other.ok(create("b"), lay("b", "y"), syncDir())
	other.holds([]string{"b", "y"}, []string{"b", ""})
	p.holds([]string{"a", "x"}, nil)
}

// TestP201Down: while the machine is down every call but some answers ErrCrash, whatever it is given, and does nothing.
func TestP201Down(t *testing.T) {
	p := newPair(t, create("there"), lay("there", "abc"), syncFile("there"), syncDir(), lay("there", "de"), rename("there", "a"), create("b"), crash(0, 1, 1))
	p.isUp(false)
	p.counted(7)
	held := []string{"a", "abcd"}
	p.holds(held, held)
	for _, name := range []string{"a", "there", "none", "", ".", "a/b", strings.Repeat("x", 65)} {
		p.want(api.ErrCrash, withName(name)...)
	}
	p.want(api.ErrCrash, syncDir(), list())
	for _, n := range []int{math.MinInt, -1, 0, 1, 2, 1 << 40, 1<<40 + 1, math.MaxInt} {
		p.want(api.ErrCrash, fail(n, 0), crash(n), crash(n, 1, 2))
	}
	p.want(api.ErrCrash, lay("a", strings.Repeat("x", 1000)))
	if names, err := p.f.List(); names != nil || err != api.ErrCrash {
		t.Errorf("List while down: %q, error %d", names, err)
	}
	p.isUp(false)
	p.counted(7)
	p.holds(held, held)
	like := p.clone()
	like.look()
	like.isUp(false)
	like.want(api.ErrCrash, create("c"))
	like.ok(start(), create("c"))
	p.want(api.ErrCrash, create("c"))
	p.ok(start())
	p.isUp(true)
	p.ok(create("c"), lay("a", "x"), syncDir(), list())
	p.counted(10)
}

// TestP205Start: ErrArg while up, OK while down; it brings nothing back and counts no step.
func TestP205Start(t *testing.T) {
	p := newPair(t)
	p.want(api.ErrArg, start(), start())
	p.isUp(true)
	p.ok(create("a"), crash(0))
	p.isUp(false)
	p.ok(start())
	p.isUp(true)
	p.want(api.ErrArg, start())
	p.holds(nil, nil)
	p.counted(1)
	for i := range 5 {
		p.ok(crash(0), start())
		p.want(api.ErrArg, start())
		p.ok(crash(1))
		p.want(api.ErrCrash, syncDir(), syncDir())
		p.isUp(false)
		p.ok(start())
		p.counted(2 + i)
	}
}

// names are texts that may be names, and texts that may not.
func names() map[string]bool {
	list := map[string]bool{}
	for i := range 256 {
		b := string([]byte{byte(i)})
		may := strings.Contains(signs, b)
		list[b] = may && b != "."
		list[b+"x"], list["x"+b], list["x"+b+"y"], list["."+b] = may, may, may, may && b != "."
		list[strings.Repeat("n", 63)+b] = may
	}
	for _, s := range []string{"...", "....", ".x", "x.", "x..", "..x", "-", "_", "--", "temp-save", "dump.rdb", "dump.rdb.1", strings.Repeat("n", 63), strings.Repeat("n", 64), strings.Repeat(".", 64), signs[:64], signs[1:]} {
		list[s] = true
	}
	for _, s := range []string{"", ".", "..", strings.Repeat("n", 65), strings.Repeat("n", 1000), signs, "./", "../a", "a b", "a\x00", "é", "aé", "\xff\xfe", "a\n", "*", "a:b", "A/B", "ａ"} {
		list[s] = false
	}
	return list
}

// TestNames: texts of all sorts at every place of a call that takes a name.
func TestNames(t *testing.T) {
	for name, may := range names() {
		p := newPair(t, create("there"), lay("there", "old"))
		if !may {
			p.want(api.ErrName, withName(name)...)
			p.counted(2)
			p.holds([]string{"there", "old"}, nil)
			continue
		}
		p.want(api.ErrFile, withFile(name)...)
		p.counted(2)
		p.ok(create(name), lay(name, "new"), syncFile(name), read(name), rename(name, "to"), rename("to", name), remove(name), rename("there", name), read(name))
		p.counted(9)
		p.holds([]string{name, "old"}, nil)
	}
}

// TestNoFile: calls on a name that stands for no file, because it never did, no more, or not again.
func TestNoFile(t *testing.T) {
	p := newPair(t)
	p.want(api.ErrFile, withFile("a")...)
	p.ok(create("a"), remove("a"))
	p.want(api.ErrFile, withFile("a")...)
	p.ok(create("a"), rename("a", "b"))
	p.want(api.ErrFile, withFile("a")...)
	p.ok(crash(0), start())
	p.want(api.ErrFile, withFile("a")...)
	p.want(api.ErrFile, withFile("b")...)
	p.counted(4)
	p.want(api.ErrFile, rename("a", "a"), rename("a", "b"))
	p.counted(4)
	if text, err := p.f.Read("a"); text != "" || err != api.ErrFile {
		t.Errorf("Read of no file: %q, error %d", text, err)
	}
	p.ok(create("A"))
	p.want(api.ErrFile, withFile("a")...)
}

// TestErrorsInOrder: where two errors apply it is the one that is named first; none of these is a step, and a plan waits for the next one.
func TestErrorsInOrder(t *testing.T) {
	p := newPair(t, create("there"))
	p.want(api.ErrName, rename("none", "a/b"), rename("a/b", "none"), rename("", ""), rename(".", "there"), rename("there", ".."))
	p.ok(fail(1, 5), crash(2))
	p.want(api.ErrName, withName("a/b")...)
	p.want(api.ErrFile, withFile("none")...)
	p.want(api.ErrArg, start(), fail(0, 0), crash(-1))
	p.counted(1)
	p.want(api.ErrIO, lay("there", "abcdefg"))
	p.want(api.ErrName, withName("a/b")...)
	p.want(api.ErrFile, withFile("none")...)
	p.isUp(true)
	p.holds([]string{"there", "abcde"}, nil)
	p.want(api.ErrCrash, lay("there", "x"))
	p.want(api.ErrCrash, withName("a/b")...)
	p.want(api.ErrCrash, withName("none")...)
	p.counted(3)
}

// filled are calls that fill the directory up to so many names.
func filled(n int) []call {
	var list []call
	for i := range n {
		list = append(list, create(named("n%d", i)))
	}
	return list
}

// TestFull: the MaxFiles-th name and one more; names in the directory now count, files do not.
func TestFull(t *testing.T) {
	p := newPair(t, filled(api.MaxFiles)...)
	p.counted(64)
	p.want(api.ErrFull, create("more"), create("n64"))
	p.want(api.ErrName, create("a/b"))
	p.counted(64)
	p.ok(create("n0"), create("n63"), lay("n0", "x"))
	p.want(api.ErrFull, create("more"))
	p.counted(67)
	p.ok(fail(1, 0))
	p.want(api.ErrFull, create("more"), create("more"))
	p.counted(67)
	p.want(api.ErrIO, create("n5"))
	p.ok(crash(1, 66))
	p.want(api.ErrFull, create("more"))
	p.isUp(true)
	p.want(api.ErrCrash, create("n5"))
	p.want(api.ErrCrash, create("more"))
	p.ok(start())
	p.counted(69)
	p.ok(rename("n1", "more"))
	p.want(api.ErrFull, create("n1"))
	p.ok(rename("more", "n2"), create("n1"))
	p.want(api.ErrFull, create("more"))
	p.ok(remove("n3"), create("more"))
	p.want(api.ErrFull, create("n3"))
	p.ok(crash(0), start(), list())
}
