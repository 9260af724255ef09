package persist

import (
	"fmt"
	"slices"
	"strings"
	"testing"

	"cistern/api"
	"cistern/simfs"
)

// TestP241Steps: the steps of a Save, written out.
func TestP241Steps(t *testing.T) {
	save := func(text string) []op {
		return []op{create("temp-save"), lay("temp-save", text), syncFile("temp-save")}
	}
	old := func(text string) []op {
		return []op{create("temp-old"), lay("temp-old", text), syncFile("temp-old")}
	}
	shift := func(from ...int) []op {
		var list []op
		for _, i := range from {
			list = append(list, rename(fmt.Sprint("dump.rdb.", i), fmt.Sprint("dump.rdb.", i+1)))
		}
		return append(list, rename("temp-old", "dump.rdb.1"))
	}
	exchange := []op{rename("temp-save", "dump.rdb")}
	gone := func(from ...int) []op {
		var list []op
		for _, i := range from {
			list = append(list, remove(fmt.Sprint("dump.rdb.", i)))
		}
		return append(list, syncDir())
	}
	for _, c := range []struct {
		files string // names; each holds its name in capitals
		text  string
		keep  int
		steps [][]op
	}{
		{"", "A", 0, [][]op{save("A"), exchange, gone()}},
		{"", "A", 2, [][]op{save("A"), exchange, gone()}},
		{"", "A", 8, [][]op{save("A"), exchange, gone()}},
		{"", "", 0, [][]op{{create("temp-save"), syncFile("temp-save")}, exchange, gone()}},
		{"dump.rdb", "B", 0, [][]op{save("B"), exchange, gone()}},
		{"dump.rdb", "B", 1, [][]op{save("B"), old("DUMP.RDB"), shift(), exchange, gone()}},
		{"dump.rdb", "B", 8, [][]op{save("B"), old("DUMP.RDB"), shift(), exchange, gone()}},
		{"dump.rdb", "", 1, [][]op{{create("temp-save"), syncFile("temp-save")}, old("DUMP.RDB"), shift(), exchange, gone()}},
		{"dump.rdb dump.rdb.1", "C", 1, [][]op{save("C"), old("DUMP.RDB"), shift(), exchange, gone()}},
		{"dump.rdb dump.rdb.1", "C", 2, [][]op{save("C"), old("DUMP.RDB"), shift(1), exchange, gone()}},
		{"dump.rdb dump.rdb.1 dump.rdb.2", "C", 2, [][]op{save("C"), old("DUMP.RDB"), shift(1), exchange, gone()}},
		{"dump.rdb dump.rdb.1 dump.rdb.2", "C", 1, [][]op{save("C"), old("DUMP.RDB"), shift(), exchange, gone(2)}},
		{"dump.rdb dump.rdb.1 dump.rdb.2", "C", 0, [][]op{save("C"), exchange, gone(1, 2)}},
		{"dump.rdb.1 dump.rdb.2", "C", 8, [][]op{save("C"), exchange, gone()}},
		{"dump.rdb.1 dump.rdb.2", "C", 1, [][]op{save("C"), exchange, gone(2)}},
		{"dump.rdb dump.rdb.2 dump.rdb.3 dump.rdb.5", "D", 4, [][]op{save("D"), old("DUMP.RDB"), shift(3, 2), exchange, gone(5)}},
		{"dump.rdb dump.rdb.1 dump.rdb.2 dump.rdb.3 dump.rdb.4 dump.rdb.5 dump.rdb.6 dump.rdb.7 dump.rdb.8", "E", 8, [][]op{save("E"), old("DUMP.RDB"), shift(7, 6, 5, 4, 3, 2, 1), exchange, gone()}},
		{"dump.rdb dump.rdb.1 dump.rdb.2 dump.rdb.3 dump.rdb.4 dump.rdb.5 dump.rdb.6 dump.rdb.7 dump.rdb.8", "E", 7, [][]op{save("E"), old("DUMP.RDB"), shift(6, 5, 4, 3, 2, 1), exchange, gone(8)}},
		{"dump.rdb dump.rdb.1 dump.rdb.2 dump.rdb.3 dump.rdb.4 dump.rdb.5 dump.rdb.6 dump.rdb.7 dump.rdb.8", "E", 3, [][]op{save("E"), old("DUMP.RDB"), shift(2, 1), exchange, gone(4, 5, 6, 7, 8)}},
		{"dump.rdb dump.rdb.1 dump.rdb.2 dump.rdb.3 dump.rdb.4 dump.rdb.5 dump.rdb.6 dump.rdb.7 dump.rdb.8", "E", 0, [][]op{save("E"), exchange, gone(1, 2, 3, 4, 5, 6, 7, 8)}},
		{"dump.rdb temp-save temp-old", "F", 1, [][]op{save("F"), old("DUMP.RDB"), shift(), exchange, gone()}},
		{"dump.rdb temp-save temp-old", "F", 0, [][]op{save("F"), exchange, gone()}},
		{"temp-old temp-other dump.rdb.0 dump.rdb.9 dump.rdb.01", "F", 0, [][]op{save("F"), exchange, gone()}},
	} {
		var files []string
		for _, name := range strings.Fields(c.files) {
			files = append(files, name, strings.ToUpper(name))
		}
		x := &trial{t, disk(t, files...), c.text, c.keep, slices.Concat(c.steps...), wide()}
		x.whole()
		x.fails(-1, 0, 1, 2, 100)
		x.crashes(few()...)
		x.crashes(nil, []int{0}, []int{-1, 5, 5, 5}, []int{1000}, []int{3, 0, 0, 0, 0, 0, 0, 0, 0, 0, 0, 0, 1, 1})
	}
}

// TestP241Keep: a keep outside 0 to MaxKeep is refused ahead of all else, and nothing is done then.
func TestP241Keep(t *testing.T) {
	f := disk(t, "dump.rdb", "old", "temp-save", "left", "temp-old", "left", "dump.rdb.1", "older")
	put(t, f, "more", "more")
	f.Fail(1, 0)
	before := seen(f)
	for _, keep := range []int{-1 << 63, -100, -1, api.MaxKeep + 1, 64, 1<<63 - 1} {
		if err := Save(f, "new", keep); err != api.ErrArg || seen(f) != before {
			t.Errorf("keep %d: error %d, %s", keep, err, seen(f))
		}
	}
	if err := f.SyncDir(); err != api.ErrIO {
		t.Errorf("a refused Save took a step: %d", err)
	}
	for keep := range api.MaxKeep + 1 {
		g := f.Clone()
		if err := Save(g, "new", keep); err != api.OK || liveOf(g) != (inOne{"new", true}) {
			t.Errorf("keep %d: error %d, %s", keep, err, seen(g))
		}
	}
}

// sizes are those about a piece's, and of several.
func sizes() []int { return []int{0, 1, 2, 65535, 65536, 65537, 131071, 131072, 131073, 200000} }

// TestP241Pieces: texts of all sizes come in pieces, and so does the live file where it is copied, whatever its own pieces were.
func TestP241Pieces(t *testing.T) {
	for _, n := range sizes() {
		for _, m := range sizes() {
			text, old := long(n, 1), long(m, 2)
			f := disk(t, "dump.rdb", old[:m/3])
			must(t, f, lay("dump.rdb", old[m/3:]), syncFile("dump.rdb"))
			for _, keep := range []int{0, 1, 2} {
				x := &trial{t, f, text, keep, planned(f, text, keep), [][]int{{2, 100, 70000, 10}, {9, 1, 1, 65536}}}
				x.whole()
				if keep == 2 && (n == 65537 || m == 131072) || keep == 0 && n == m {
					x.fails(-1, 0, 1, 65535, 65536, 1<<40)
					x.crashes([]int{1}, []int{9, 1, 65536, 65537})
				}
			}
		}
	}
	counted(t, long(65536, 3), 5)
	counted(t, long(65537, 3), 6)
	counted(t, "", 4)
}

// counted holds how many steps a first Save of a text takes.
func counted(t *testing.T, text string, steps int) {
	t.Helper()
	f := simfs.New()
	if err := Save(f, text, 8); err != api.OK || f.Steps() != steps || all(f.Safe()) != "dump.rdb="+short(text) {
		t.Errorf("%s: %d, %s", short(text), err, seen(f))
	}
}

// crowded is a directory of so many names, the given ones among them.
func crowded(t *testing.T, n int, names ...string) *simfs.FS {
	t.Helper()
	var files []string
	for i, name := range names {
		files = append(files, name, fmt.Sprint("text ", i))
	}
	for i := len(names); i < n; i++ {
		files = append(files, fmt.Sprint("x", i), "x")
	}
	return disk(t, files...)
}

// TestP241Full: where the directory has no room for another name, Create answers ErrFull, which is no step; what the Save has made is removed.
func TestP241Full(t *testing.T) {
	for _, c := range []struct {
		n     int
		names string
		keep  int
		err   api.Errno
		steps int
		left  string // temporary files
	}{
		{64, "dump.rdb", 0, api.ErrFull, 0, ""},
		{64, "dump.rdb", 2, api.ErrFull, 0, ""},
		{64, "dump.rdb.1", 2, api.ErrFull, 0, ""},
		{64, "", 0, api.ErrFull, 0, ""},
		{64, "dump.rdb temp-old", 1, api.ErrFull, 1, ""},
		{64, "dump.rdb temp-old temp-x", 0, api.ErrFull, 1, "temp-x"},
		{63, "", 0, api.OK, 5, ""},
		{63, "dump.rdb", 0, api.OK, 5, ""},
		{63, "dump.rdb.3", 1, api.OK, 6, ""},
		{63, "dump.rdb", 1, api.ErrFull, 4, ""},
		{63, "dump.rdb dump.rdb.1 dump.rdb.2", 8, api.ErrFull, 4, ""},
		{63, "dump.rdb temp-old", 1, api.OK, 9, ""},
		{62, "dump.rdb", 1, api.OK, 9, ""},
		{64, "temp-save", 8, api.OK, 5, ""},
		{64, "dump.rdb temp-save", 0, api.OK, 5, ""},
		{64, "dump.rdb temp-save", 1, api.ErrFull, 4, ""},
		{63, "dump.rdb temp-save", 1, api.OK, 9, ""},
		{64, "dump.rdb temp-save temp-old", 1, api.OK, 9, ""},
		{64, "dump.rdb temp-save temp-old", 0, api.OK, 5, "temp-old"},
	} {
		f := crowded(t, c.n, strings.Fields(c.names)...)
		live, steps := liveOf(f), f.Steps()
		x := &trial{t, f, "new", c.keep, planned(f, "new", c.keep), wide()}
		g, err := x.ask("nothing planned", func(*simfs.FS) {})
		if c.err == api.OK {
			live = inOne{"new", true}
		}
		if err != c.err || g.Steps() != steps+c.steps || liveOf(g) != live || strings.Join(temps(g), " ") != c.left {
			t.Errorf("%d names, %s: Save with %d: error %d, %d steps, %s, %s", c.n, c.names, c.keep, err, g.Steps()-steps, liveOf(g), temps(g))
		}
	}
}

// look is what stands beside the snapshots under names that look like theirs.
func look() []string {
	return []string{"dump.rdb.0", "zero", "dump.rdb.9", "nine", "dump.rdb.01", "early", "dump.rdb.", "dot", "dump.rdb.10", "ten", "dump.rdb.1.1", "twice", "dump.rdb1", "none", "Dump.rdb", "great", "temp-x", "x", "temp", "y"}
}

// TestP241All: each Save on each set of older snapshots, with each keep, with a live file and with none, with temporary files and without; each step of it fails, or meets a crash.
func TestP241All(t *testing.T) {
	for part := range 8 {
		t.Run(fmt.Sprint(part), func(t *testing.T) {
			t.Parallel()
			m := mix(part + 1)
			for set := part; set < 256; set += 8 {
				for keep := range 9 {
					f := someDisk(t, &m, set, keep)
					x := &trial{t, f, "new text", keep, planned(f, "new text", keep), few()}
					x.whole()
					x.fails(of(&m, -1, 0, 2, 9))
					x.crashes(m.picks(), nil)
				}
			}
		})
	}
}

// someDisk has the older snapshots of a set, a bit each, and other files as if by chance; not all of them are safe.
func someDisk(t *testing.T, m *mix, set, by int) *simfs.FS {
	var files []string
	for i := range 8 {
		if set>>i&1 == 1 {
			files = append(files, fmt.Sprint("dump.rdb.", i+1), fmt.Sprint("older ", i))
		}
	}
	if (set+by)%3 > 0 {
		files = append(files, "dump.rdb", of(m, "", "old", "older text"))
	}
	if m.below(4) == 0 {
		files = append(files, look()...)
	}
	for _, name := range []string{"temp-save", "temp-old"} {
		if m.below(5) == 0 {
			files = append(files, name, of(m, "", "left"))
		}
	}
	cut := 2 * m.below(len(files)/2+1)
	f := disk(t, files[:cut]...)
	put(t, f, files[cut:]...)
	return f
}
