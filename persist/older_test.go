package persist

import (
	"fmt"
	"slices"
	"testing"

	"cistern/api"
	"cistern/simfs"
)

// ages are the live file (0) and the older snapshots 1 to 8.
type ages [9]inOne

func agesOf(f *simfs.FS) ages {
	var a ages
	now := f.Now()
	a[0] = under(now, "dump.rdb")
	for i := 1; i <= 8; i++ {
		a[i] = under(now, fmt.Sprint("dump.rdb.", i))
	}
	return a
}

// saved is P24.7, and what a Save does where nothing is turned.
func (a ages) saved(text string, keep int) ages {
	b := a
	b[0] = inOne{text, true}
	if keep > 0 && a[0].there {
		b[1] = a[0]
		for i := 1; i+1 <= keep; i++ {
			switch {
			case a[i].there:
				b[i+1] = a[i]
			case i+1 < keep:
				b[i+1] = inOne{}
			}
		}
	}
	for i := keep + 1; i <= 8; i++ {
		b[i] = inOne{}
	}
	return b
}

// turned does a Save that is OK, and holds all ages behind it, also behind a crash, and what Older tells.
func turned(t *testing.T, f *simfs.FS, text string, keep int) {
	t.Helper()
	before := agesOf(f)
	want := before.saved(text, keep)
	if err := Save(f, text, keep); err != api.OK || agesOf(f) != want {
		t.Fatalf("on %v: Save(%s, %d) = %d, %v; want %v", before, short(text), keep, err, agesOf(f), want)
	}
	list, err := Older(f)
	if !slices.Equal(list, olderOf(f.Now())) || err != api.OK {
		t.Fatalf("Older = %q, %d; %s", list, err, seen(f))
	}
}

// TestP247Sets: each set of older snapshots, with each keep, with a live file and with none.
func TestP247Sets(t *testing.T) {
	for set := range 256 {
		for keep := range 9 {
			for _, live := range []bool{true, false} {
				f := simfs.New()
				for i := range 8 {
					if set>>i&1 == 1 {
						put(t, f, fmt.Sprint("dump.rdb.", i+1), fmt.Sprint("older ", i+1))
						must(t, f, syncFile(fmt.Sprint("dump.rdb.", i+1)))
					}
				}
				if live {
					put(t, f, "dump.rdb", "old")
				}
				turned(t, f, "new", keep)
				want := agesOf(f)
				if f.Crash(0); agesOf(f) != want {
					t.Fatalf("set %d, keep %d: a crash leaves %s", set, keep, seen(f))
				}
			}
		}
	}
}

// TestP247Many: many Saves one behind the other, with changing keeps; older ones among them are removed, or put there, as if by another hand.
func TestP247Many(t *testing.T) {
	for seed := range 200 {
		m := mix(seed*3 + 1)
		f := simfs.New()
		for i := range 60 {
			name := fmt.Sprint("dump.rdb.", 1+m.below(8))
			switch m.below(6) {
			case 0:
				f.Remove(name)
			case 1:
				put(t, f, name, fmt.Sprint("put ", i))
				must(t, f, syncFile(name))
			case 2:
				if m.below(4) == 0 {
					f.Remove("dump.rdb")
				}
			}
			turned(t, f, fmt.Sprint("text ", i), of(&m, 0, 1, 2, 5, 8, 8, 8, m.below(9)))
		}
	}
}

// TestP247Even: with one keep, the older ones are the last ones that were saved.
func TestP247Even(t *testing.T) {
	for keep := range 9 {
		f := simfs.New()
		var last []string
		for i := range 25 {
			text := fmt.Sprint("text ", i)
			turned(t, f, text, keep)
			if list, err := Older(f); err != api.OK || !slices.Equal(list, last) {
				t.Fatalf("keep %d, save %d: %q, want %q", keep, i, list, last)
			}
			last = slices.Insert(last, 0, text)
			last = last[:min(len(last), keep)]
		}
	}
}

// TestP247Behind: behind a Save that failed and one that is OK the older ones are as P24.7 says of the files that the failed one left.
func TestP247Behind(t *testing.T) {
	m := mix(31)
	for range 3000 {
		f := simfs.New()
		for i := range 12 {
			f.Fail(1+m.below(25), m.below(9))
			Save(f, fmt.Sprint("text ", i), m.below(9))
		}
		for f.SyncDir() != api.OK {
		}
		for range 30 { // what is planned is met here
			f.SyncDir()
		}
		turned(t, f, "new", m.below(9))
	}
}

// TestExamples: those of the chapter.
func TestExamples(t *testing.T) {
	f := simfs.New()
	x := &trial{t, f, "A", 2, []op{create("temp-save"), lay("temp-save", "A"), syncFile("temp-save"), rename("temp-save", "dump.rdb"), syncDir()}, wide()}
	x.whole()
	for _, c := range []struct {
		text string
		keep int
		want string
	}{{"A", 2, `dump.rdb="A"`}, {"B", 2, `dump.rdb="B" dump.rdb.1="A"`}, {"C", 1, `dump.rdb="C" dump.rdb.1="B"`}} {
		if err := Save(f, c.text, c.keep); err != api.OK || all(f.Now()) != c.want || all(f.Safe()) != c.want {
			t.Errorf("Save(%s, %d) = %d, %s", c.text, c.keep, err, seen(f))
		}
	}
	f = simfs.New()
	f.Fail(3, 0)
	err := Save(f, "A", 0)
	if names, e := f.List(); err != api.ErrIO || len(names) != 0 || e != api.OK {
		t.Errorf("example 2: error %d, %s", err, seen(f))
	}
	for p, want := range []string{"A", "A", "B"} {
		f := disk(t, "dump.rdb", "A")
		f.Crash(5, p)
		if err := Save(f, "B", 0); err != api.ErrCrash {
			t.Errorf("example 3: error %d", err)
		}
		f.Start()
		if left := under(f.Now(), "temp-save"); left != (inOne{"B", true}) && p == 1 || left.there && p != 1 {
			t.Errorf("example 3, %d: %s", p, seen(f))
		}
		if text, there, err := Load(f); text != want || !there || err != api.OK || all(f.Now()) != `dump.rdb="`+want+`"` {
			t.Errorf("example 3, %d: Load = %q, %v, %d, %s", p, text, there, err, seen(f))
		}
	}
}
