package table

import (
	"slices"
	"sort"
	"strings"
	"testing"

	"cistern/api"
)

// TestTA1Example: the chapter's example of Find.
func TestTA1Example(t *testing.T) {
	if s, ok := Find("GET"); !ok || s != (api.Spec{Name: "get", Least: 2, Most: 2, First: 1, Last: 1, Step: 1}) {
		t.Errorf("Find(GET) = %+v, %v", s, ok)
	}
}

// spellings gives a name in small, great and mixed letters: in all ways, if it is short, else in many.
func spellings(name string) []string {
	var list []string
	spell := func(great int) {
		b := []byte(name)
		for i := range b {
			if great>>i&1 == 1 {
				b[i] -= 'a' - 'A'
			}
		}
		list = append(list, string(b))
	}
	m := mix(uint64(len(name)))
	all := 1 << len(name)
	for i := range min(all, 1024) {
		if all > 1024 && i >= 2 {
			i = m.below(all)
		}
		spell(i)
	}
	spell(all - 1)
	return list
}

// TestTA1Rows: each row of the chapter, by its name in small, great and mixed letters.
func TestTA1Rows(t *testing.T) {
	t.Parallel()
	for _, want := range chapterSpecs(t) {
		for _, name := range append(spellings(want.Name), strings.ToUpper(want.Name), strings.ToUpper(want.Name[:1])+want.Name[1:]) {
			if got, ok := Find(name); got != want || !ok {
				t.Errorf("Find(%q) = %+v, %v; want %+v", name, got, ok, want)
			}
		}
	}
}

// TestTA1Flags: which commands write, are the operator's, and may be used while one listens.
func TestTA1Flags(t *testing.T) {
	flagged := func(flag func(api.Spec) bool) []string {
		var names []string
		for _, name := range All() {
			if s, _ := Find(name); flag(s) {
				names = append(names, name)
			}
		}
		return names
	}
	admin := []string{"bgsave", "config", "save", "shutdown", "slowlog"}
	if got := flagged(func(s api.Spec) bool { return s.Admin }); !slices.Equal(got, admin) {
		t.Errorf("Admin: %q", got)
	}
	sub := []string{"psubscribe", "punsubscribe", "subscribe", "unsubscribe"}
	if got := flagged(func(s api.Spec) bool { return s.Sub }); !slices.Equal(got, sub) {
		t.Errorf("Sub: %q", got)
	}
	if n, want := len(flagged(func(s api.Spec) bool { return s.Write })), strings.Count(chapter, " | w | "); n != want {
		t.Errorf("%d commands write, want %d", n, want)
	}
	if got := flagged(func(s api.Spec) bool { return s.Write && s.Admin || s.Write && s.Sub || s.Admin && s.Sub }); len(got) != 0 {
		t.Errorf("several things at once: %q", got)
	}
}

// notNames gives texts that are near a name; some of them may be another one.
func notNames(name string) []string {
	var list []string
	for i := range len(name) + 1 {
		list = append(list, name[:i], name[i:])
		for b := range 256 {
			c := string([]byte{byte(b)})
			list = append(list, name[:i]+c+name[i:])
			if i < len(name) {
				list = append(list, name[:i]+c+name[i+1:])
			}
		}
	}
	for _, around := range []string{" ", "  ", "\x00", "\n", "\r\n", "|", "'", strings.Repeat(" ", 13), strings.Repeat(" ", 16)} {
		list = append(list, around+name, name+around, around+name+around)
	}
	return append(list, name+name, name+" "+name, name+strings.Repeat(" ", 20)+"3")
}

// TestTA1None: what is no name: beginnings and ends of names, names with a byte more or with another one.
func TestTA1None(t *testing.T) {
	t.Parallel()
	m := newModel(t)
	none := 0
	for name := range m {
		for _, s := range notNames(name) {
			got, ok := Find(s)
			if want, there := m.find(s); got != want || ok != there {
				t.Errorf("Find(%q) = %+v, %v; want %+v", s, got, ok, want)
			} else if !ok {
				none++
			}
		}
	}
	if none < 100000 {
		t.Errorf("only %d texts that are no names", none)
	}
}

// TestTA1NoneElse: other texts that are no names, long ones among them.
func TestTA1NoneElse(t *testing.T) {
	list := []string{
		"", " ", "\x00", "\n", "'", "-1", "0", "1", "w", "fly", "ge", "gett", "get ", " get", "g et", "get\x00", "\x00get", "\nget", "get\n", "ge\xf4", "get\xff", "\xffget", "\xe7\xe5\xf4",
		"ｇｅｔ", "\u212aeys", "KEY\u017f", "\u017fet", "SET\u0130", "İncr", "get 2", "get              2", "name", "least", "most", "what", "first",
		"zremrangebyscore ", "zremrangebyscore0", "zremrangebyscor", "zremrangebyscoreZREMRANGEBYSCORE", rows, chapter,
		strings.Repeat(" ", 16), strings.Repeat("\x00", 16), strings.Repeat("g", 16), strings.Repeat("G", 17), strings.Repeat("get", 1<<18), strings.Repeat("\xff", api.MaxElement), "get" + strings.Repeat(" ", api.MaxElement),
	}
	for _, s := range list {
		if got, ok := Find(s); got != (api.Spec{}) || ok {
			t.Errorf("Find(%.40q) = %+v, %v", s, got, ok)
		}
	}
}

// TestTA1Pieces: of the pieces of the table's text just the names are found.
func TestTA1Pieces(t *testing.T) {
	t.Parallel()
	m := newModel(t)
	for i := range len(rows) {
		for n := range min(rowWidth+2, len(rows)-i) {
			got, ok := Find(rows[i : i+n])
			if want, there := m.find(rows[i : i+n]); got != want || ok != there {
				t.Errorf("Find(%q) = %+v, %v; want %+v", rows[i:i+n], got, ok, want)
			}
		}
	}
}

// TestTA1Layout: the table's text is whole rows, each name within its width.
func TestTA1Layout(t *testing.T) {
	if len(rows)%rowWidth != 0 || rowCount != chapterCount {
		t.Fatalf("%d bytes, %d rows", len(rows), rowCount)
	}
	for i, s := range chapterSpecs(t) {
		if r := rowAt(i); r.name() != s.Name || rows[i*rowWidth] != '\n' || strings.Contains(string(r), "\n") {
			t.Errorf("row %d: %q", i, r)
		}
	}
}

// TestTA1Lower: each byte alone, and each between others.
func TestTA1Lower(t *testing.T) {
	var all, small []byte
	for b := range 256 {
		want := byte(b)
		if b >= 65 && b <= 90 {
			want = byte(b + 32)
		}
		all, small = append(all, byte(b)), append(small, want)
		if got := Lower(string([]byte{byte(b)})); got != string([]byte{want}) {
			t.Errorf("Lower of byte %d = %q", b, got)
		}
		if got := Lower(string([]byte{'A', byte(b), 'z'})); got != string([]byte{'a', want, 'z'}) {
			t.Errorf("Lower of byte %d between letters = %q", b, got)
		}
	}
	if got := Lower(string(all)); got != string(small) {
		t.Errorf("Lower of all bytes = %q", got)
	}
	for _, n := range []int{100, 1 << 12, api.MaxElement / 256, api.MaxRequest / 256} {
		if Lower(strings.Repeat(string(all), n)) != strings.Repeat(string(small), n) {
			t.Errorf("Lower of %d bytes", 256*n)
		}
	}
	for s, want := range map[string]string{
		"": "", "a": "a", "A": "a", "GET": "get", "GeT": "get", "get": "get", "AZ@[`{az": "az@[`{az", " A B ": " a b ", "\x00A\x00": "\x00a\x00",
		"ÄÖÜ": "ÄÖÜ", "\u212aEY": "\u212aey", "\u0130I": "\u0130i", "\xc1\xda": "\xc1\xda", "ΑΒ": "ΑΒ", "A1-_.": "a1-_.",
	} {
		if got := Lower(s); got != want {
			t.Errorf("Lower(%q) = %q, want %q", s, got, want)
		}
	}
}

// TestTA1LowerMixed: texts of any bytes; that small ones stay.
func TestTA1LowerMixed(t *testing.T) {
	m := mix(3)
	for range 5000 {
		b := make([]byte, m.below(40))
		for i := range b {
			b[i] = byte(m.below(256))
		}
		s := string(b)
		got := Lower(s)
		if got != modelLower(s) || Lower(got) != got || s != string(b) {
			t.Fatalf("Lower(%q) = %q", s, got)
		}
	}
}

// TestTA1All: rising, each name once, as many as the table has rows.
func TestTA1All(t *testing.T) {
	var want []string
	for _, s := range chapterSpecs(t) {
		want = append(want, s.Name)
	}
	sort.Strings(want)
	got := All()
	if !slices.Equal(got, want) {
		t.Errorf("All() = %q", got)
	}
	if len(got) != chapterCount {
		t.Errorf("%d names", len(got))
	}
	for i := 1; i < len(got); i++ {
		if got[i-1] >= got[i] {
			t.Errorf("%q ahead of %q", got[i-1], got[i])
		}
	}
}

// TestTA5Both: whatever Find tells of is in All, and the other way.
func TestTA5Both(t *testing.T) {
	names := All()
	for _, name := range names {
		if s, ok := Find(name); !ok || s.Name != name {
			t.Errorf("Find(%q) = %+v, %v", name, s, ok)
		}
		if Lower(name) != name {
			t.Errorf("%q is not in small letters", name)
		}
	}
	m := newModel(t)
	for name := range m {
		for _, s := range notNames(name) {
			if spec, ok := Find(s); ok && !slices.Contains(names, spec.Name) {
				t.Errorf("Find(%q) tells of %q, which is not in All", s, spec.Name)
			}
		}
	}
}

// TestTA5Places: what the rows say of places can be: keys and counts stand behind the name, within the least number of words.
func TestTA5Places(t *testing.T) {
	for _, name := range All() {
		s, _ := Find(name)
		if s.Least < 1 || s.Most >= 0 && s.Most < s.Least || s.First < 0 || s.First >= s.Least || s.Last >= s.Least || s.Count < 0 || s.Count >= s.Least {
			t.Errorf("%+v", s)
		}
		if s.First > 0 != (s.Step > 0) || s.First == 0 && s.Last != 0 || s.Last > 0 && s.Last < s.First {
			t.Errorf("%+v", s)
		}
	}
}
