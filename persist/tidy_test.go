package persist

import (
	"fmt"
	"slices"
	"strings"
	"testing"

	"cistern/api"
	"cistern/simfs"
)

// longest is a temporary file's name of as many bytes as a name may have.
var longest = "temp-" + strings.Repeat("z", api.MaxName-5)

// TestP243Names: which files are temporary, alone and beside others.
func TestP243Names(t *testing.T) {
	temporary := []string{"temp-", "temp--", "temp-.", "temp-..", "temp-0", "temp-A", "temp-_", "temp-a", "temp-a.b", "temp-aa", "temp-dump.rdb", "temp-old", "temp-save", "temp-save.1", "temp-temp-", longest}
	other := []string{"temp", "Temp-a", "TEMP-a", "tEmp-a", "temp_a", "temp.a", "tempa", "tem-p", "emp-a", "a-temp-a", "-temp-a", ".temp-a", "ttemp-a", "dump.rdb", "dump.rdb.1", "dump.rdb.temp-", "a", "t", "tmp-a", "save", "old", strings.Repeat("z", api.MaxName)}
	for _, name := range temporary {
		tidies(t, disk(t, name, "x"), 1, 2)
		tidies(t, disk(t, name, "x", "dump.rdb", "y", "temp", "z"), 1, 2)
	}
	for _, name := range other {
		tidies(t, disk(t, name, "x"), 0, 0)
		tidies(t, disk(t, name, "x", "temp-q", "y"), 1, 2)
	}
	tidies(t, simfs.New(), 0, 0)
	tidies(t, disk(t), 0, 0)
	both := disk(t)
	for _, name := range slices.Concat(temporary, other) {
		put(t, both, name, "x")
	}
	tidies(t, both, len(temporary), len(temporary)+1)
	full := disk(t)
	for i := range api.MaxFiles {
		put(t, full, fmt.Sprint("temp-", i), "x")
	}
	tidies(t, full, api.MaxFiles, api.MaxFiles+1)
}

// tidies holds a Tidy with nothing planned, with each step of it planned to fail and with a crash ahead of each, against the number of those that are to be removed and that of its steps.
func tidies(t *testing.T, f *simfs.FS, removed, steps int) {
	t.Helper()
	g := f.Clone()
	n, err := Tidy(g)
	if n != removed || err != api.OK || g.Steps() != f.Steps()+steps || temps(g) != nil || len(g.Now()) != len(f.Now())-removed {
		t.Fatalf("on %s: Tidy = %d, %d, %s", seen(f), n, err, seen(g))
	}
	if removed > 0 && !slices.Equal(g.Now(), unsynced(g.Safe(), f.Now())) {
		t.Fatalf("on %s: Tidy leaves %s", seen(f), seen(g))
	}
	if again, err := Tidy(g); again != 0 || err != api.OK || g.Steps() != f.Steps()+steps {
		t.Fatalf("on %s: Tidy again = %d, %d", seen(f), again, err)
	}
	tidyPlans(t, f, steps)
}

// unsynced are files with the texts that they have now, safe or not.
func unsynced(files, now []api.Pair) []api.Pair {
	for i, x := range files {
		files[i].Value = under(now, x.Name).text
	}
	return files
}

// tidyPlans plans each step of a Tidy to fail, and a crash ahead of each.
func tidyPlans(t *testing.T, f *simfs.FS, steps int) {
	t.Helper()
	for n := 1; n <= steps; n++ {
		tidyPlan(t, f, fmt.Sprintf("Fail(%d)", n), n, api.ErrIO, func(f *simfs.FS) { f.Fail(n, 0) })
		for _, p := range [][]int{nil, {n - 1}, {n, 1, 1, 1}, {-1, 2, 2}, {1000, 1000, 1000}} {
			tidyPlan(t, f, fmt.Sprintf("Crash(%d, %v)", n, p), n, api.ErrCrash, func(f *simfs.FS) { f.Crash(n, p...) })
		}
	}
}

// tidyPlan holds a Tidy and a Load whose n-th step answers an error against calls one by one: nothing is told but the error.
func tidyPlan(t *testing.T, f *simfs.FS, what string, n int, err api.Errno, plan func(f *simfs.FS)) {
	t.Helper()
	a, b, c := f.Clone(), f.Clone(), f.Clone()
	plan(a)
	plan(b)
	plan(c)
	want, wantErr := tidied(b)
	removed, got := Tidy(a)
	if removed != 0 || want != 0 || got != err || wantErr != err || a.Steps() != f.Steps()+n || !alike(a, b, few()...) {
		t.Fatalf("on %s: %s: Tidy = %d, %d, %s; want %s", seen(f), what, removed, got, seen(a), seen(b))
	}
	if text, there, got := Load(c); text != "" || there || got != err || !alike(b, c, few()...) {
		t.Fatalf("on %s: %s: Load = %s, %v, %d, %s; want %s", seen(f), what, short(text), there, got, seen(c), seen(b))
	}
}

// TestP243Order: by rising name: what a crash ahead of each step finds, all changes kept.
func TestP243Order(t *testing.T) {
	names := []string{"temp-", "temp--", "temp-.", "temp-0", "temp-10", "temp-9", "temp-A", "temp-Z", "temp-_", "temp-a", "temp-a.b", "temp-aa", "temp-b"}
	f := disk(t, "dump.rdb", "live", "temp", "left")
	m := mix(8)
	for _, i := range []int{5, 12, 0, 7, 3, 9, 1, 11, 2, 10, 4, 6, 8} {
		put(t, f, names[i], strings.Repeat("x", m.below(3)))
	}
	for n := 1; n <= len(names)+1; n++ {
		g := f.Clone()
		g.Fail(n, 0)
		left := names[n-1:]
		if removed, err := Tidy(g); removed != 0 || err != api.ErrIO || !slices.Equal(temps(g), left) {
			t.Errorf("Fail(%d): Tidy = %d, %d, left %v, want %v", n, removed, err, temps(g), left)
		}
		if n, err := Tidy(g); n != len(left) || err != api.OK || all(g.Safe()) != `dump.rdb="live" temp="left"` {
			t.Errorf("Tidy behind a failed one = %d, %d, %s", n, err, seen(g))
		}
	}
}

// TestP243Behind: the failed SyncDir of a Tidy is not done by the next one, which finds nothing to remove.
func TestP243Behind(t *testing.T) {
	f := disk(t, "dump.rdb", "live", "temp-a", "x")
	f.Fail(2, 0)
	if n, err := Tidy(f); n != 0 || err != api.ErrIO {
		t.Fatalf("Tidy = %d, %d", n, err)
	}
	if n, err := Tidy(f); n != 0 || err != api.OK || f.Steps() != 9 {
		t.Fatalf("Tidy = %d, %d, %s", n, err, seen(f))
	}
	f.Crash(0)
	f.Start()
	if n, err := Tidy(f); n != 1 || err != api.OK || all(f.Safe()) != `dump.rdb="live"` {
		t.Fatalf("Tidy = %d, %d, %s", n, err, seen(f))
	}
}

// TestP242Load: the live file's bytes, whatever stands beside it and whatever they are; temporary files are gone then, and nothing else.
func TestP242Load(t *testing.T) {
	for _, c := range []struct {
		files []string
		want  inOne
		steps int
		left  string
	}{
		{nil, inOne{}, 0, ""},
		{[]string{"dump.rdb", ""}, inOne{"", true}, 0, `dump.rdb=""`},
		{[]string{"dump.rdb", "REDIS"}, inOne{"REDIS", true}, 0, `dump.rdb="REDIS"`},
		{[]string{"dump.rdb", "\x00\xff\n"}, inOne{"\x00\xff\n", true}, 0, `dump.rdb="\x00\xff\n"`},
		{[]string{"temp-save", "new"}, inOne{}, 2, ""},
		{[]string{"temp-save", "new", "temp-old", "old", "dump.rdb.1", "older"}, inOne{}, 3, `dump.rdb.1="older"`},
		{[]string{"dump.rdb", "live", "temp-save", "new", "temp-", "x"}, inOne{"live", true}, 3, `dump.rdb="live"`},
		{[]string{"dump.rdb.1", "older", "dump.rdb.", "x", "Dump.rdb", "y", "dump.rdbx", "z", "dump", "w"}, inOne{}, 0, `Dump.rdb="y" dump="w" dump.rdb.="x" dump.rdb.1="older" dump.rdbx="z"`},
		{[]string{"dump.rdb", "live", "dump.rdb.1", "older", "dump.rdb.8", "oldest", "temp", "t"}, inOne{"live", true}, 0, `dump.rdb="live" dump.rdb.1="older" dump.rdb.8="oldest" temp="t"`},
	} {
		f := disk(t, c.files...)
		steps := f.Steps()
		text, there, err := Load(f)
		if (inOne{text, there}) != c.want || err != api.OK || f.Steps() != steps+c.steps || all(f.Now()) != c.left || all(f.Safe()) != c.left {
			t.Errorf("%q: Load = %s, %v, %d, %s", c.files, short(text), there, err, seen(f))
		}
	}
	f := disk(t, "temp-save", "left")
	put(t, f, "dump.rdb", "not safe") // what is told is what stands there now
	if text, there, err := Load(f); text != "not safe" || !there || err != api.OK || all(f.Safe()) != `dump.rdb=""` {
		t.Errorf("Load = %s, %v, %d, %s", short(text), there, err, seen(f))
	}
}

// TestP242Sizes: live files of all sizes come back whole.
func TestP242Sizes(t *testing.T) {
	for _, n := range sizes() {
		f := simfs.New()
		text := long(n, 7)
		if err := Save(f, text, 1); err != api.OK {
			t.Fatalf("%d bytes: error %d", n, err)
		}
		steps := f.Steps()
		if got, there, err := Load(f); got != text || !there || err != api.OK || f.Steps() != steps {
			t.Errorf("%d bytes: Load = %s, %v, %d", n, short(got), there, err)
		}
	}
}

// TestP244Older: each set of older snapshots, with files beside them whose names look like theirs.
func TestP244Older(t *testing.T) {
	for set := range 256 {
		var files, want []string
		for i := 8; i >= 1; i-- {
			if set>>(i-1)&1 == 1 {
				text := fmt.Sprint("older ", i)
				if i == 3 {
					text = ""
				}
				files = append(files, fmt.Sprint("dump.rdb.", i), text)
				want = slices.Insert(want, 0, text)
			}
		}
		f := disk(t, files...)
		if set%2 == 0 {
			put(t, f, append(look(), "dump.rdb", "live", "temp-save", "x")...)
		}
		before := seen(f)
		got, err := Older(f)
		if !slices.Equal(got, want) || err != api.OK || seen(f) != before {
			t.Errorf("%s: Older = %q, %d, want %q", before, got, err, want)
		}
	}
	f := simfs.New()
	put(t, f, "dump.rdb.2", "not safe")
	if got, err := Older(f); !slices.Equal(got, []string{"not safe"}) || err != api.OK {
		t.Errorf("Older = %q, %d", got, err)
	}
}

// TestP244Long: older snapshots of some size come back whole.
func TestP244Long(t *testing.T) {
	f := simfs.New()
	var texts []string
	for i := range 10 {
		texts = append(texts, long(60000+3000*i, byte(i)))
		if err := Save(f, texts[i], 8); err != api.OK {
			t.Fatalf("error %d", err)
		}
	}
	slices.Reverse(texts)
	if got, err := Older(f); !slices.Equal(got, texts[1:9]) || err != api.OK {
		t.Errorf("%d texts, error %d", len(got), err)
	}
}

// TestDown: on a machine that is down all calls answer ErrCrash and change nothing; a keep that may not be is told ahead of it.
func TestDown(t *testing.T) {
	for _, files := range [][]string{nil, {"dump.rdb", "live"}, {"dump.rdb", "live", "temp-save", "x", "temp-old", "y", "dump.rdb.1", "older"}, {"temp-x", ""}} {
		f := disk(t, files...)
		f.Crash(0)
		before := seen(f)
		for _, keep := range []int{0, 1, api.MaxKeep} {
			for _, text := range []string{"", "new", long(70000, 0)} {
				if err := Save(f, text, keep); err != api.ErrCrash || seen(f) != before {
					t.Errorf("Save(%s, %d) = %d, %s", short(text), keep, err, seen(f))
				}
			}
		}
		if err := Save(f, "new", 9); err != api.ErrArg || seen(f) != before {
			t.Errorf("Save with 9: %d", err)
		}
		if text, there, err := Load(f); text != "" || there || err != api.ErrCrash || seen(f) != before {
			t.Errorf("Load = %q, %v, %d, %s", text, there, err, seen(f))
		}
		if n, err := Tidy(f); n != 0 || err != api.ErrCrash || seen(f) != before {
			t.Errorf("Tidy = %d, %d, %s", n, err, seen(f))
		}
		if list, err := Older(f); list != nil || err != api.ErrCrash || seen(f) != before {
			t.Errorf("Older = %q, %d, %s", list, err, seen(f))
		}
		f.Start()
		if text, there, err := Load(f); (inOne{text, there}) != under(f.Now(), "dump.rdb") || err != api.OK || temps(f) != nil {
			t.Errorf("Load behind Start = %q, %v, %d, %s", text, there, err, seen(f))
		}
	}
}
