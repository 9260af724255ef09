package quicklist

import (
	"encoding/binary"
	"fmt"
	"math"
	"slices"
	"strings"
	"sync"
	"testing"
	"unsafe"

	"cistern/api"
	"cistern/listpack"
)

func pack(t *testing.T, values ...string) string {
	t.Helper()
	p, err := listpack.New(values...)
	if err != api.OK {
		t.Fatalf("listpack.New of %d values = %d", len(values), err)
	}
	return p
}

// need fails if nodes are others than these, as the chapter writes them.
func need(t *testing.T, l *List, want string) {
	t.Helper()
	if got := strings.TrimSpace(shown(l.Nodes())); got != want {
		t.Errorf("nodes %s; want %s", got, want)
	}
}

func made(t *testing.T, entries, bytes int) *List {
	t.Helper()
	l, err := New(entries, bytes)
	if err != api.OK || l == nil {
		t.Fatalf("New(%d, %d) = %v, %d", entries, bytes, l, err)
	}
	return l
}

func TestExamples(t *testing.T) {
	l := made(t, 2, 5)
	for _, s := range []string{"a", "b", "c"} {
		l.Push(s, false)
	}
	need(t, l, "[a b] [c]")
	l.Push("z", true)
	need(t, l, "[z] [a b] [c]")
	l.Insert(1, "x")
	need(t, l, "[z x] [a b] [c]")
	l.Insert(3, "y")
	need(t, l, "[z x] [a y] [b] [c]")
	l.Insert(4, "longer")
	need(t, l, "[z x] [a y] [longer] [b] [c]")
	l.Set(4, "l")
	need(t, l, "[z x] [a y] [l] [b] [c]")
	if n := l.Delete(1, 4); n != 4 {
		t.Errorf("Delete(1, 4) = %d", n)
	}
	need(t, l, "[z] [b] [c]")
}

// TestQ1Bounds: New and Load at the edges of both bounds, whatever the nodes are.
func TestQ1Bounds(t *testing.T) {
	sound, bad := []string{pack(t, "")}, []string{"no listpack"}
	for _, entries := range []int{math.MinInt, -1, 0, 1, 2, 4095, 4096, 4097, math.MaxInt} {
		for _, bytes := range []int{math.MinInt, -1, 0, 1, 4095, 4096, 4097, math.MaxInt} {
			may := entries >= 1 && entries <= 4096 && bytes >= 0 && bytes <= 4096
			l, err := New(entries, bytes)
			checkMade(t, fmt.Sprintf("New(%d, %d)", entries, bytes), may, api.ErrArg, l, err, 0)
			l, err = Load(entries, bytes, sound)
			checkMade(t, fmt.Sprintf("Load(%d, %d)", entries, bytes), may, api.ErrArg, l, err, 1)
			l, err = Load(entries, bytes, nil)
			checkMade(t, fmt.Sprintf("Load(%d, %d) of none", entries, bytes), may, api.ErrArg, l, err, 0)
			wantErr := api.ErrArg
			if may {
				wantErr = api.ErrNodes
			}
			l, err = Load(entries, bytes, bad)
			checkMade(t, fmt.Sprintf("Load(%d, %d) of no listpack", entries, bytes), false, wantErr, l, err, 0)
		}
	}
}

func checkMade(t *testing.T, what string, may bool, wantErr api.Errno, l *List, err api.Errno, count int) {
	t.Helper()
	if !may {
		if l != nil || err != wantErr {
			t.Errorf("%s = %v, %d; want nil, %d", what, l, err, wantErr)
		}
		return
	}
	if l == nil || err != api.OK || l.Len() != count || len(l.Nodes()) != count {
		t.Errorf("%s = %v, %d", what, l, err)
	}
}

// TestQ1Both: each of the bounds is held, each in its own place.
func TestQ1Both(t *testing.T) {
	for _, entries := range []int{1, 2, 3, 4095, 4096} {
		l := made(t, entries, 0)
		for range 4100 {
			l.Push("", false)
		}
		if first, _ := listpack.Len(l.Nodes()[0]); first != entries || len(l.Nodes()) != (4100+entries-1)/entries {
			t.Errorf("entries %d: %d nodes, the first of %d", entries, len(l.Nodes()), first)
		}
	}
	x := strings.Repeat("x", 4097)
	for _, bytes := range []int{0, 1, 63, 64, 4095, 4096} {
		l := made(t, 2, bytes)
		l.Push(x[:bytes], false)
		l.Push(x[:bytes], false)
		l.Push("", false)
		l.Push(x[:bytes+1], false)
		l.Push("", false)
		if nodes := l.Nodes(); !slices.Equal(nodes, []string{pack(t, x[:bytes], x[:bytes]), pack(t, ""), pack(t, x[:bytes+1]), pack(t, "")}) {
			t.Errorf("bytes %d: nodes %s", bytes, shown(nodes))
		}
	}
}

// TestQ1Load: nodes of every form.
func TestQ1Load(t *testing.T) {
	for _, nodes := range [][][]string{
		{}, {{"a"}}, {{""}}, {{"a", "b", "c"}}, {{"a"}, {"b"}, {"c"}}, {{"12345"}, {"-1", "007", "99999"}, {"x"}},
		{{"longer"}}, {{"longer"}, {"larger"}}, {{"a"}, {"longer"}, {"b", "c"}}, {{"123456"}}, {{"-99999999999"}, {"1"}}, {{strings.Repeat("x", 1<<19)}}, {{strings.Repeat("1", 1<<19)}, {"a"}},
	} {
		r := begin(t, 3, 5, nodes...)
		r.alike("Load", r.l, r.m.Nodes())
		r.do(length(), at(0), between(0, 99), push("z", true), push("y", false))
	}
	l, err := Load(3, 5, []string{})
	checkMade(t, "Load of an empty list", true, api.OK, l, err, 0)
}

// TestQ1LoadWrong: what is no list's, alone and beside sound nodes.
func TestQ1LoadWrong(t *testing.T) {
	ab := pack(t, "a", "b")
	wrong := map[string]string{
		"nothing": "", "no listpack": "x", "an empty listpack": pack(t), "cut": ab[:len(ab)-1], "a byte behind": ab + "\xff", "a byte ahead": "\x00" + ab, "two in one": ab + ab,
		"a wrong count": ab[:4] + "\x03" + ab[5:], "another size": "\x0c" + ab[1:], "a number as a text": "\x0a\x00\x00\x00\x01\x00\x81\x31\x02\xff",
		"too many": pack(t, "a", "b", "c", "d"), "far too many": pack(t, make([]string, 1<<17)...),
		"a large one first": pack(t, "longer", "a"), "a large one last": pack(t, "a", "longer"), "a large one between": pack(t, "a", "longer", "b"), "two large ones": pack(t, "longer", "longer"), "a large number": pack(t, "a", "123456"),
		"one above MaxElement": tooLong(),
	}
	z := pack(t, "z")
	for what, p := range wrong {
		for _, nodes := range [][]string{{p}, {z, p}, {p, z}, {z, p, z}, {z, z, p}} {
			l, err := Load(3, 5, nodes)
			checkMade(t, "Load of "+what, false, api.ErrNodes, l, err, 0)
		}
	}
	if l, err := Load(4, 6, []string{pack(t, "a", "b", "c", "d"), pack(t, "a", "longer", "b")}); l == nil || err != api.OK {
		t.Errorf("Load with wider bounds = %v, %d", l, err)
	}
}

// tooLong would be a listpack, if its one value were not a byte too long.
func tooLong() string {
	size := 1<<19 + 1
	body := string(binary.LittleEndian.AppendUint32([]byte{0xf0}, uint32(size))) + strings.Repeat("x", size)
	back := len(body)
	body += string([]byte{byte(back >> 14), byte(back>>7)&127 | 128, byte(back)&127 | 128})
	head := binary.LittleEndian.AppendUint32(nil, uint32(len(body)+7))
	return string(head) + "\x01\x00" + body + "\xff"
}

// TestTooLong: what tooLong lays down is sound but for the one byte.
func TestTooLong(t *testing.T) {
	p, size := tooLong(), 1<<19
	want := pack(t, strings.Repeat("x", size))
	if len(p) != len(want)+1 || p[len(p)-1] != want[len(want)-1] || p[6] != want[6] || listpack.Valid(p) != api.ErrListpack {
		t.Errorf("%d bytes beside %d, Valid %d", len(p), len(want), listpack.Valid(p))
	}
}

// full is the nodes of a list of MaxCount elements.
func full(t *testing.T, entries int) []string {
	t.Helper()
	node := make([]string, entries)
	for i := range node {
		node[i] = "e"
	}
	nodes := make([]string, 1<<20/entries)
	for i := range nodes {
		nodes[i] = pack(t, node...)
	}
	return nodes
}

// TestCountFull: MaxCount elements, and one more, by each of the calls that could add one.
func TestCountFull(t *testing.T) {
	for _, entries := range []int{4096, 1} {
		nodes := full(t, entries)
		l, err := Load(entries, 9, nodes)
		if err != api.OK || l.Len() != 1<<20 {
			t.Fatalf("Load of MaxCount elements = %d", err)
		}
		for _, more := range [][]string{append(slices.Clone(nodes), pack(t, "a")), append([]string{pack(t, "a")}, nodes...), append(slices.Clone(nodes), nodes...)} {
			l, err := Load(entries, 9, more)
			checkMade(t, "Load of more than MaxCount elements", false, api.ErrNodes, l, err, 0)
		}
		long, fits := strings.Repeat("x", 1<<19+1), strings.Repeat("x", 1<<19)
		for _, s := range []string{"a", "", fits, long} {
			want := api.ErrFull
			if s == long {
				want = api.ErrLong
			}
			for _, err := range []api.Errno{l.Push(s, true), l.Push(s, false), l.Insert(0, s), l.Insert(1, s), l.Insert(1<<19, s), l.Insert(1<<20-1, s), l.Insert(1<<20, s)} {
				if err != want {
					t.Errorf("%d bytes more: %d, want %d", len(s), err, want)
				}
			}
			for _, err := range []api.Errno{l.Insert(-1, s), l.Insert(1<<20+1, s), l.Set(1<<20, s), l.Set(-1, s)} {
				if err != api.ErrArg {
					t.Errorf("%d bytes out of place: %d", len(s), err)
				}
			}
		}
		if !slices.Equal(l.Nodes(), nodes) {
			t.Error("a full list has changed with errors")
		}
		checkFullWork(t, l)
	}
}

// checkFullWork: what a full list does all the same, and that it takes one where one has gone.
func checkFullWork(t *testing.T, l *List) {
	t.Helper()
	if err := l.Set(1<<20-1, "last"); err != api.OK {
		t.Errorf("Set in a full list = %d", err)
	}
	if i, ok := l.Find("last", 0, 1); i != 1<<20-1 || !ok {
		t.Errorf("Find in a full list = %d, %v", i, ok)
	}
	if i, ok := l.Find("last", 1<<19-1, 1<<19); i != 1<<20-1 || !ok {
		t.Errorf("Find in a full list = %d, %v", i, ok)
	}
	if list := l.Range(0, math.MaxInt); len(list) != 1<<20 || list[1<<20-1] != "last" || list[0] != "e" {
		t.Errorf("Range of a full list: %d", len(list))
	}
	if s, ok := l.Pop(false); s != "last" || !ok {
		t.Errorf("Pop of a full list = %q, %v", s, ok)
	}
	if err, again := l.Push("n", true), l.Push("n", true); err != api.OK || again != api.ErrFull || l.Len() != 1<<20 {
		t.Errorf("Push of a list that misses one = %d, then %d", err, again)
	}
	if n := l.Delete(1<<19, 3); n != 3 || l.Len() != 1<<20-3 {
		t.Errorf("Delete(2^19, 3) = %d", n)
	}
	for range 3 {
		if err := l.Insert(1<<19, "m"); err != api.OK {
			t.Errorf("Insert in a list that misses one = %d", err)
		}
	}
	if err := l.Insert(1<<19, "m"); err != api.ErrFull {
		t.Errorf("Insert in a list that is full again = %d", err)
	}
	if n := l.Delete(1, math.MaxInt); n != 1<<20-1 || l.Len() != 1 {
		t.Errorf("Delete of all but one = %d", n)
	}
	if s, ok := l.At(0); s != "n" || !ok || soundRows(l) != "" {
		t.Errorf("what is left: %q, %v; %s", s, ok, soundRows(l))
	}
}

// TestCountPushed: MaxCount elements one by one, at both ends, each in a node of its own.
func TestCountPushed(t *testing.T) {
	l := made(t, 1, 4)
	for i := range 1 << 20 {
		if err := l.Push("e", i%3 == 0); err != api.OK {
			t.Fatalf("Push %d = %d", i, err)
		}
	}
	if l.Push("e", true) != api.ErrFull || l.Push("e", false) != api.ErrFull || l.Len() != 1<<20 {
		t.Errorf("Push into %d elements", l.Len())
	}
	if err := soundRows(l); err != "" {
		t.Error(err)
	}
	for i := range 1 << 20 {
		if s, ok := l.Pop(i%3 != 0); s != "e" || !ok {
			t.Fatalf("Pop %d = %q, %v", i, s, ok)
		}
	}
	if s, ok := l.Pop(true); s != "" || ok || l.Len() != 0 || len(l.Nodes()) != 0 {
		t.Errorf("Pop of nothing = %q, %v", s, ok)
	}
}

// TestEmpty: every call of an empty list, of a new one and of one that has become empty.
func TestEmpty(t *testing.T) {
	r := begin(t, 3, 4)
	was := begin(t, 3, 4, []string{"a", "b"}, []string{"large"})
	was.do(remove(0, 3))
	for _, r := range []trial{r, was} {
		if nodes := r.l.Nodes(); len(nodes) != 0 || r.l.Len() != 0 {
			t.Errorf("an empty list has nodes %q", nodes)
		}
		for _, i := range []int{math.MinInt, -1, 0, 1, math.MaxInt} {
			r.do(at(i), set(i, "a"), set(i, "large"), remove(i, 1), remove(i, math.MaxInt), find("", i, 1), find("", i, -1), find("", i, 0))
			for _, to := range []int{math.MinInt, -1, 0, 1, math.MaxInt} {
				r.do(between(i, to))
			}
		}
		r.do(pop(true), pop(false), insert(-1, "a"), insert(1, "a"), insert(math.MaxInt, "a"), insert(math.MinInt, "a"))
		for _, c := range []call{push("a", true), push("a", false), push("large", true), push("large", false), push("", true), insert(0, "a"), insert(0, "large")} {
			r.do(c, length(), at(0), pop(true), length())
		}
	}
}

// TestQ2: At, Len and Nodes at each place, beyond both ends too.
func TestQ2(t *testing.T) {
	r := begin(t, 3, 5, []string{"a", "1", ""}, []string{"longer"}, []string{"-7", "x"})
	r.do(length())
	for _, i := range []int{math.MinInt, -2, -1, 0, 1, 2, 3, 4, 5, 6, 7, 1 << 20, math.MaxInt} {
		r.do(at(i))
	}
	for i, want := range []string{"a", "1", "", "longer", "-7", "x"} {
		if s, ok := r.l.At(i); s != want || !ok {
			t.Errorf("At(%d) = %q, %v; want %q", i, s, ok, want)
		}
	}
	for _, i := range []int{-1, 6} {
		if s, ok := r.l.At(i); s != "" || ok {
			t.Errorf("At(%d) = %q, %v", i, s, ok)
		}
	}
	if r.l.Len() != 6 {
		t.Errorf("Len() = %d", r.l.Len())
	}
	need(t, r.l, "[a 1 ] [longer] [-7 x]")
}

// step is a call with the nodes that must stand behind it.
type step struct {
	does call
	want string
}

// play asks calls one by one, each of a list of these nodes.
func play(t *testing.T, nodes [][]string, steps ...step) {
	t.Helper()
	for _, s := range steps {
		r := begin(t, 3, 5, nodes...)
		r.do(s.does)
		if got := strings.TrimSpace(shown(r.l.Nodes())); got != s.want {
			t.Errorf("%s of %v: %s; want %s", s.does.name, nodes, got, s.want)
		}
	}
}

// TestQ3Push: into a node that has room, that is full, that has a large element, at both ends.
func TestQ3Push(t *testing.T) {
	play(t, [][]string{{"a", "b"}, {"c"}},
		step{push("z", true), "[z a b] [c]"}, step{push("z", false), "[a b] [c z]"}, step{push("12345", false), "[a b] [c 12345]"},
		step{push("longer", true), "[longer] [a b] [c]"}, step{push("longer", false), "[a b] [c] [longer]"}, step{push("123456", false), "[a b] [c] [123456]"})
	play(t, [][]string{{"a", "b", "c"}, {"d", "e", "f"}},
		step{push("z", true), "[z] [a b c] [d e f]"}, step{push("z", false), "[a b c] [d e f] [z]"},
		step{push("longer", true), "[longer] [a b c] [d e f]"}, step{push("longer", false), "[a b c] [d e f] [longer]"})
	play(t, [][]string{{"longer"}, {"a"}, {"larger"}},
		step{push("z", true), "[z] [longer] [a] [larger]"}, step{push("z", false), "[longer] [a] [larger] [z]"},
		step{push("wooden", true), "[wooden] [longer] [a] [larger]"}, step{push("wooden", false), "[longer] [a] [larger] [wooden]"})
	play(t, nil, step{push("z", true), "[z]"}, step{push("z", false), "[z]"}, step{push("longer", true), "[longer]"}, step{push("longer", false), "[longer]"})
}

// TestQ4Insert: the five ways, and both ends.
func TestQ4Insert(t *testing.T) {
	nodes := [][]string{{"a", "b"}, {"c", "d", "e"}, {"f", "g", "h"}, {"longer"}, {"i", "j", "k"}}
	play(t, nodes,
		step{insert(0, "LARGE!"), "[LARGE!] [a b] [c d e] [f g h] [longer] [i j k]"},
		step{insert(1, "LARGE!"), "[a] [LARGE!] [b] [c d e] [f g h] [longer] [i j k]"},
		step{insert(4, "LARGE!"), "[a b] [c d] [LARGE!] [e] [f g h] [longer] [i j k]"},
		step{insert(5, "LARGE!"), "[a b] [c d e] [LARGE!] [f g h] [longer] [i j k]"},
		step{insert(8, "LARGE!"), "[a b] [c d e] [f g h] [LARGE!] [longer] [i j k]"},
		step{insert(12, "LARGE!"), "[a b] [c d e] [f g h] [longer] [i j k] [LARGE!]"},
		step{insert(0, "z"), "[z a b] [c d e] [f g h] [longer] [i j k]"},
		step{insert(1, "z"), "[a z b] [c d e] [f g h] [longer] [i j k]"},
		step{insert(2, "z"), "[a b z] [c d e] [f g h] [longer] [i j k]"},
		step{insert(3, "z"), "[a b] [c z] [d e] [f g h] [longer] [i j k]"},
		step{insert(4, "z"), "[a b] [c d z] [e] [f g h] [longer] [i j k]"},
		step{insert(5, "z"), "[a b] [c d e] [z] [f g h] [longer] [i j k]"},
		step{insert(8, "z"), "[a b] [c d e] [f g h] [z] [longer] [i j k]"},
		step{insert(9, "z"), "[a b] [c d e] [f g h] [longer] [z] [i j k]"},
		step{insert(11, "z"), "[a b] [c d e] [f g h] [longer] [i j z] [k]"},
		step{insert(12, "z"), "[a b] [c d e] [f g h] [longer] [i j k] [z]"},
		step{insert(13, "z"), "[a b] [c d e] [f g h] [longer] [i j k]"},
		step{insert(-1, "z"), "[a b] [c d e] [f g h] [longer] [i j k]"})
	play(t, [][]string{{"a", "b", "c"}}, step{insert(0, "z"), "[z] [a b c]"}, step{insert(3, "z"), "[a b c] [z]"})
	play(t, [][]string{{"longer"}, {"a"}}, step{insert(0, "z"), "[z] [longer] [a]"}, step{insert(1, "z"), "[longer] [z a]"}, step{insert(2, "z"), "[longer] [a z]"})
	play(t, [][]string{{"a"}, {"longer"}}, step{insert(1, "z"), "[a z] [longer]"}, step{insert(2, "z"), "[a] [longer] [z]"})
	l := begin(t, 3, 5, nodes...).l
	for _, i := range []int{math.MinInt, -1, 13, 14, math.MaxInt} {
		if err := l.Insert(i, "z"); err != api.ErrArg {
			t.Errorf("Insert(%d) = %d", i, err)
		}
	}
}

// TestQ5Set: small and large by small and large, at each place of a node.
func TestQ5Set(t *testing.T) {
	play(t, [][]string{{"a", "b", "c"}, {"longer"}, {"d"}},
		step{set(0, "z"), "[z b c] [longer] [d]"}, step{set(1, "z"), "[a z c] [longer] [d]"}, step{set(2, "12345"), "[a b 12345] [longer] [d]"}, step{set(4, "z"), "[a b c] [longer] [z]"},
		step{set(0, "LARGE!"), "[LARGE!] [b c] [longer] [d]"}, step{set(1, "LARGE!"), "[a] [LARGE!] [c] [longer] [d]"}, step{set(2, "123456"), "[a b] [123456] [longer] [d]"}, step{set(4, "LARGE!"), "[a b c] [longer] [LARGE!]"},
		step{set(3, "z"), "[a b c] [z] [d]"}, step{set(3, "LARGE!"), "[a b c] [LARGE!] [d]"}, step{set(3, ""), "[a b c] [] [d]"},
		step{set(-1, "z"), "[a b c] [longer] [d]"}, step{set(5, "z"), "[a b c] [longer] [d]"})
	l := begin(t, 3, 5, []string{"a"}).l
	for _, i := range []int{math.MinInt, -1, 1, 2, math.MaxInt} {
		for _, s := range []string{"z", "LARGE!", strings.Repeat("x", 1<<19+1)} {
			if err := l.Set(i, s); err != api.ErrArg {
				t.Errorf("Set(%d, %d bytes) = %d", i, len(s), err)
			}
		}
	}
	r := begin(t, 3, 5, []string{"longer"}, []string{"a"})
	r.do(set(0, "b"), push("c", true), set(1, "large again"), push("d", true), insert(2, "e"), set(1, ""), insert(2, "f"))
}

// TestElementSize: elements as long as the bound, one more, MaxElement and one more, by each call that takes one.
func TestElementSize(t *testing.T) {
	x := strings.Repeat("x", 1<<19+1)
	for _, bytes := range []int{0, 5, 4096} {
		for _, size := range []int{0, bytes, bytes + 1, 1<<19 - 1, 1 << 19, 1<<19 + 1} {
			r := begin(t, 3, bytes, []string{"", ""}, []string{"", "", ""})
			s := x[:size]
			r.do(push(s, true), push(s, false), insert(0, s), insert(2, s), insert(r.l.Len(), s), set(0, s), set(3, s), set(r.l.Len()-1, s), find(s, 0, 1), pop(true), pop(false))
			long, wantErr := size > 1<<19, api.OK
			if long {
				wantErr = api.ErrLong
			}
			if err := r.l.Set(0, s); err != wantErr {
				t.Errorf("Set of %d bytes = %d", size, err)
			}
			if err := r.l.Push(s, true); err != wantErr {
				t.Errorf("Push of %d bytes = %d", size, err)
			}
			if err := r.l.Insert(1, s); err != wantErr {
				t.Errorf("Insert of %d bytes = %d", size, err)
			}
			if err := r.l.Insert(-1, s); err != api.ErrArg {
				t.Errorf("Insert of %d bytes at -1 = %d", size, err)
			}
		}
	}
}

// TestQ6Pop: at both ends until nothing is left, and once more.
func TestQ6Pop(t *testing.T) {
	for _, front := range []bool{true, false} {
		r := begin(t, 3, 5, []string{"a", "b", "c"}, []string{"longer"}, []string{"1", ""}, []string{"d"})
		for range 9 {
			r.do(pop(front))
		}
		r.do(length(), push("again", front), pop(!front), pop(front))
	}
	l := begin(t, 3, 5, []string{"a", "b"}, []string{"c", "d"}).l
	for _, c := range []struct {
		front bool
		s     string
		want  string
	}{{true, "a", "[b] [c d]"}, {false, "d", "[b] [c]"}, {false, "c", "[b]"}, {true, "b", ""}} {
		if s, ok := l.Pop(c.front); s != c.s || !ok {
			t.Errorf("Pop(%v) = %q, %v; want %q", c.front, s, ok, c.s)
		}
		need(t, l, c.want)
	}
}

// TestQ6Delete: of none, of one, within a node, over several nodes, of more than there are; nodes are never joined.
func TestQ6Delete(t *testing.T) {
	play(t, [][]string{{"a", "b", "c"}, {"longer"}, {"d", "e"}, {"f", "g", "h"}},
		step{remove(0, 1), "[b c] [longer] [d e] [f g h]"}, step{remove(1, 1), "[a c] [longer] [d e] [f g h]"}, step{remove(2, 1), "[a b] [longer] [d e] [f g h]"}, step{remove(3, 1), "[a b c] [d e] [f g h]"},
		step{remove(0, 3), "[longer] [d e] [f g h]"}, step{remove(1, 2), "[a] [longer] [d e] [f g h]"}, step{remove(2, 2), "[a b] [d e] [f g h]"}, step{remove(1, 6), "[a] [g h]"}, step{remove(1, 5), "[a] [f g h]"},
		step{remove(0, 4), "[d e] [f g h]"}, step{remove(4, 1), "[a b c] [longer] [e] [f g h]"}, step{remove(2, 6), "[a b] [h]"}, step{remove(7, 1), "[a b c] [longer] [d e] [f h]"}, step{remove(7, 9), "[a b c] [longer] [d e] [f]"},
		step{remove(0, 9), ""}, step{remove(0, 10), ""}, step{remove(0, math.MaxInt), ""}, step{remove(8, math.MaxInt), "[a b c] [longer] [d e] [f g]"}, step{remove(1, 8), "[a]"}, step{remove(0, 8), "[h]"})
	same := "[a b c] [longer] [d e]"
	for _, i := range []int{math.MinInt, -1, 0, 2, 6, 7, math.MaxInt} {
		for _, n := range []int{math.MinInt, -1, 0, 1, math.MaxInt} {
			if n < 1 || i < 0 || i > 5 {
				play(t, [][]string{{"a", "b", "c"}, {"longer"}, {"d", "e"}}, step{remove(i, n), same})
				if got := begin(t, 3, 5, []string{"a", "b", "c"}, []string{"longer"}, []string{"d", "e"}).l.Delete(i, n); got != 0 {
					t.Errorf("Delete(%d, %d) = %d", i, n, got)
				}
			}
		}
	}
}

// TestQ7Range: from below 0, beyond the end, from above to.
func TestQ7Range(t *testing.T) {
	r := begin(t, 3, 5, []string{"a", "b", "c"}, []string{"longer"}, []string{"1", "2"})
	edges := []int{math.MinInt, -7, -2, -1, 0, 1, 2, 3, 4, 5, 6, 7, 20, math.MaxInt - 1, math.MaxInt}
	for _, from := range edges {
		for _, to := range edges {
			r.do(between(from, to))
		}
	}
	for _, c := range []struct {
		from, to int
		want     string
	}{{0, 0, "a"}, {-5, 1, "a b"}, {2, 4, "c longer 1"}, {5, 5, "2"}, {4, 99, "1 2"}, {6, 9, ""}, {3, 2, ""}, {-3, -1, ""}, {0, -1, ""}} {
		if got := strings.Join(r.l.Range(c.from, c.to), " "); got != c.want {
			t.Errorf("Range(%d, %d) = %s; want %s", c.from, c.to, got, c.want)
		}
	}
}

// TestQ7Find: steps of all kinds from each place.
func TestQ7Find(t *testing.T) {
	r := begin(t, 3, 5, []string{"a", "b", "a"}, []string{"longer"}, []string{"b", "1", "a"}, []string{"a"}, []string{"longer"}, []string{"b"})
	steps := []int{math.MinInt, math.MinInt + 1, -1 << 40, -11, -10, -9, -4, -3, -2, -1, 0, 1, 2, 3, 4, 9, 10, 11, 1 << 40, math.MaxInt - 1, math.MaxInt}
	for _, s := range []string{"a", "b", "1", "01", "longer", "", "none", strings.Repeat("x", 1<<19+1)} {
		for _, from := range []int{math.MinInt, -1, 0, 1, 2, 3, 4, 5, 6, 7, 8, 9, 10, 11, math.MaxInt} {
			for _, step := range steps {
				r.do(find(s, from, step))
			}
		}
	}
	for _, c := range []struct {
		s          string
		from, step int
		want       int
		ok         bool
	}{
		{"a", 0, 1, 0, true}, {"a", 1, 1, 2, true}, {"a", 3, 1, 6, true}, {"a", 8, -1, 7, true}, {"a", 5, -1, 2, true}, {"a", 9, -3, 6, true}, {"b", 9, -1, 9, true}, {"b", 8, -2, 4, true}, {"longer", 0, 3, 3, true}, {"longer", 9, -1, 8, true},
		{"1", 0, 5, 5, true}, {"1", 5, math.MaxInt, 5, true}, {"1", 5, math.MinInt, 5, true}, {"1", 4, math.MaxInt, 0, false}, {"1", 0, 2, 0, false}, {"1", 0, 0, 0, false}, {"1", 5, 0, 0, false}, {"a", -1, 1, 0, false}, {"a", 10, -1, 0, false}, {"none", 0, 1, 0, false}, {"a", 8, 1, 0, false},
	} {
		if i, ok := r.l.Find(c.s, c.from, c.step); i != c.want || ok != c.ok {
			t.Errorf("Find(%q, %d, %d) = %d, %v; want %d, %v", c.s, c.from, c.step, i, ok, c.want, c.ok)
		}
	}
}

// shapes are all lists of up to so many nodes, each of 1 to entries small elements, or of a large one.
func shapes(entries, bytes, most int) [][][]string {
	lists := [][][]string{nil}
	for from := 0; most > 0; most-- {
		ahead := lists[from:]
		from = len(lists)
		for _, nodes := range ahead {
			for size := range entries + 1 {
				lists = append(lists, append(slices.Clone(nodes), filled(size, bytes, len(nodes))))
			}
		}
	}
	return lists
}

// filled is a node of so many small elements; of 0 it is one of a large element.
func filled(size, bytes, mark int) []string {
	if size == 0 {
		return []string{strings.Repeat("L", bytes+1+mark)}
	}
	node := make([]string, size)
	for i := range node {
		node[i] = fmt.Sprint(10*mark + i)[:min(bytes, 1+mark/10)]
	}
	return node
}

// TestAllShapes: every call at every place of every small list.
func TestAllShapes(t *testing.T) {
	for _, b := range []struct{ entries, bytes, most int }{{1, 0, 4}, {1, 3, 4}, {2, 2, 4}, {3, 4, 3}} {
		for _, nodes := range shapes(b.entries, b.bytes, b.most) {
			count := len(slices.Concat(nodes...))
			for _, c := range allCalls(count, b.bytes) {
				begin(t, b.entries, b.bytes, nodes...).do(c)
			}
		}
	}
}

func allCalls(count, bytes int) []call {
	small, large := strings.Repeat("s", bytes), strings.Repeat("l", bytes+1)
	calls := []call{length(), pop(true), pop(false), push(small, true), push(small, false), push(large, true), push(large, false)}
	for i := -1; i <= count+1; i++ {
		calls = append(calls, at(i), set(i, small), set(i, large), insert(i, small), insert(i, large))
		for n := -1; n <= count-i+1; n++ {
			calls = append(calls, remove(i, n), between(i, n))
		}
		for _, step := range []int{-3, -2, -1, 1, 2, 3} {
			calls = append(calls, find("1"[:min(1, bytes)], i, step))
		}
	}
	return calls
}

// TestQ8Mixed: long runs of mixed calls, behind each of which nodes, answers and a loaded list are held against the model.
func TestQ8Mixed(t *testing.T) {
	m := mix(7)
	for _, entries := range []int{1, 2, 3, 4, 16, 4096} {
		for _, bytes := range []int{0, 1, 3, 64} {
			r := begin(t, entries, bytes)
			for range 600 {
				r.do(m.call(r.l.Len(), bytes))
			}
		}
	}
}

// TestManyNodes: lists of so many nodes that they stand in several rows, which are cut and joined.
func TestManyNodes(t *testing.T) {
	m := mix(11)
	for _, entries := range []int{1, 2, 5} {
		r := begin(t, entries, 2)
		most, least := 0, math.MaxInt
		for range 3 {
			for range 3 * mostNodes * entries {
				r.step(insert(m.below(r.l.Len()+1), m.element(2)))
			}
			most = max(most, len(r.l.rows))
			r.long(&m)
			for r.l.Len() > mostNodes/2 {
				r.step(remove(m.below(r.l.Len()), 1+m.below(4)))
			}
			least = min(least, len(r.l.rows))
			r.long(&m)
		}
		if most < 4 || least > 2 {
			t.Errorf("entries %d: %d to %d rows", entries, least, most)
		}
		r.do(remove(1, math.MaxInt), push("a", false), push("b", true))
	}
}

// long asks mixed calls of a long list, and looks at all of it.
func (r trial) long(m *mix) {
	r.t.Helper()
	for range 200 {
		r.step(m.call(r.l.Len(), 2))
	}
	r.do(length(), between(0, math.MaxInt), find("none", 0, 1), find("none", r.l.Len()-1, -7), insert(m.below(r.l.Len()), "a"), remove(m.below(r.l.Len()), 1))
}

// step asks one call of the list and of the model, and looks at the answer and at the rows alone, as the list is long.
func (r trial) step(c call) {
	r.t.Helper()
	if got, want := fmt.Sprint(c.of(r.l)), fmt.Sprint(c.of(r.m)); got != want {
		r.t.Fatalf("%s = %.80s; want %.80s", c.name, got, want)
	}
	if err := soundRows(r.l); err != "" {
		r.t.Fatalf("%s: %s", c.name, err)
	}
}

// TestRowEdge: each call where a row ends and the next one begins.
func TestRowEdge(t *testing.T) {
	nodes := slices.Repeat([][]string{{"a", "b"}}, mostNodes+1)
	edge := begin(t, 2, 2, nodes...)
	if len(edge.l.rows) != 2 {
		t.Fatalf("%d rows", len(edge.l.rows))
	}
	first := len(edge.l.rows[0].nodes)
	for _, last := range [][]string{{"a"}, {"a", "b"}, {"large"}} {
		for _, next := range [][]string{{"c"}, {"c", "d"}, {"larger"}} {
			nodes := slices.Clone(nodes)
			nodes[first-1], nodes[first] = last, next
			i := 2*(first-1) + len(last)
			for _, c := range []call{
				insert(i-1, "z"), insert(i, "z"), insert(i+1, "z"), insert(i, "large"), set(i-1, "z"), set(i, "z"), set(i-1, "large"), set(i, "large"), at(i - 1), at(i),
				remove(i-1, 1), remove(i, 1), remove(i-1, 2), remove(i-2, 5), remove(i, 4), remove(0, i), remove(i, math.MaxInt), remove(1, 2*i), between(i-2, i+2), between(i, i), find("c", i-3, 1), find("a", i+1, -1), find("a", i+2, -3), find("none", 0, 1), find("none", 2*i, -1), push("z", true), push("z", false), pop(true), pop(false),
			} {
				begin(t, 2, 2, nodes...).do(c)
			}
		}
	}
}

// TestErrorsChangeNothing: Rule 2 for each call that answers an error or that there is nothing.
func TestErrorsChangeNothing(t *testing.T) {
	l := begin(t, 2, 5, []string{"a", "b"}, []string{"longer"}, []string{"c"}).l
	long := strings.Repeat("x", 1<<19+1)
	before := l.Nodes()
	for what, err := range map[string]api.Errno{"Push": l.Push(long, true), "Push back": l.Push(long, false), "Insert": l.Insert(1, long), "Insert at Len": l.Insert(4, long), "Set": l.Set(0, long), "Set of a large one": l.Set(2, long)} {
		if err != api.ErrLong {
			t.Errorf("%s = %d", what, err)
		}
	}
	for what, err := range map[string]api.Errno{"Insert": l.Insert(5, "a"), "Insert below": l.Insert(-1, "a"), "Set": l.Set(4, "a"), "Set below": l.Set(-1, "a"), "long Insert": l.Insert(5, long), "long Set": l.Set(4, long)} {
		if err != api.ErrArg {
			t.Errorf("%s = %d", what, err)
		}
	}
	if !slices.Equal(l.Nodes(), before) || l.Len() != 4 {
		t.Errorf("nodes %s", shown(l.Nodes()))
	}
}

// TestListsAreCallers: what a caller does with lists that it was told, or has handed in, the list does not see.
func TestListsAreCallers(t *testing.T) {
	handed := []string{pack(t, "a", "b", "c"), pack(t, "longer"), pack(t, "d")}
	l, err := Load(3, 5, handed)
	if err != api.OK {
		t.Fatal(err)
	}
	want := slices.Clone(handed)
	clear(handed)
	check := func(what string) {
		t.Helper()
		if !slices.Equal(l.Nodes(), want) || !slices.Equal(l.Range(0, 9), []string{"a", "b", "c", "longer", "d"}) {
			t.Errorf("%s: nodes %s", what, shown(l.Nodes()))
		}
	}
	check("Load")
	nodes, other := l.Nodes(), l.Nodes()
	clear(nodes[:cap(nodes)])
	check("Nodes")
	if !slices.Equal(other, want) {
		t.Error("two answers of Nodes share memory")
	}
	for from := range 5 {
		list, other := l.Range(from, from+2), l.Range(0, 9)
		clear(list[:cap(list)])
		check("Range")
		if len(other) != 5 || other[from] == "" {
			t.Error("two answers of Range share memory")
		}
	}
	args := slices.Clone(want)
	Load(3, 5, args)
	if !slices.Equal(args, want) {
		t.Error("Load has changed its argument")
	}
}

// TestTextsAreCallers: no text that is handed in is kept, and none that is told is the list's own.
func TestTextsAreCallers(t *testing.T) {
	big := strings.Repeat("x", 5000)
	arguments := []string{pack(t, "abc", "def"), pack(t, big), pack(t, "kept", "as is"), pack(t, "12345")}
	l, _ := Load(2, 5, arguments)
	l.Push(big, false)
	l.Push(big[:4], false)
	l.Insert(1, big[:3])
	l.Insert(2, big)
	l.Set(0, big[:2])
	clone := l.Clone()
	told := append(slices.Concat(arguments, l.Nodes(), l.Nodes(), clone.Nodes(), l.Range(0, 99), l.Range(0, 99)), big)
	for i := range l.Len() {
		s, _ := l.At(i)
		told = append(told, s)
	}
	kept := slices.Concat(keptTexts(l), keptTexts(clone))
	s, _ := l.Pop(true)
	e, _ := l.Pop(false)
	told = append(told, s, e)
	texts := append(told, kept...)
	for i, a := range texts {
		for _, b := range texts[:i] {
			if share(a, b) {
				t.Errorf("%.20q and %.20q share memory", a, b)
			}
		}
	}
}

func keptTexts(l *List) []string {
	var texts []string
	for _, r := range l.rows {
		for _, n := range r.nodes {
			texts = append(texts, n.pack)
		}
	}
	return texts
}

func share(a, b string) bool {
	if a == "" || b == "" {
		return false
	}
	from, other := uintptr(unsafe.Pointer(unsafe.StringData(a))), uintptr(unsafe.Pointer(unsafe.StringData(b)))
	return from < other+uintptr(len(b)) && other < from+uintptr(len(a))
}

// TestCloneAlone: a list and its clone go ways of their own, through cut and joined rows.
func TestCloneAlone(t *testing.T) {
	m := mix(5)
	a := begin(t, 2, 3)
	for range 3 * mostNodes {
		a.step(push(m.element(3), m.below(2) == 0))
	}
	b := trial{t, a.l.Clone(), &model{entries: 2, bytes: 3, nodes: slices.Clone(a.m.nodes)}}
	for range 300 {
		a.step(m.call(a.l.Len(), 3))
		b.step(m.call(b.l.Len(), 3))
	}
	a.alike("the list", a.l, a.m.Nodes())
	b.alike("the clone", b.l, b.m.Nodes())
	c := trial{t, b.l.Clone(), &model{entries: 2, bytes: 3, nodes: slices.Clone(b.m.nodes)}}
	b.do(remove(0, math.MaxInt), push("a", true))
	c.do(at(0), at(c.l.Len()-1), length(), pop(true))
}

// TestListsApart: many lists at once answer as one alone does.
func TestListsApart(t *testing.T) {
	run := func() []string {
		m := mix(3)
		l, _ := New(3, 4)
		var answers []string
		for range 400 {
			answers = append(answers, fmt.Sprint(m.call(l.Len(), 4).of(l)))
		}
		return append(answers, l.Nodes()...)
	}
	want := run()
	got := make([][]string, 8)
	var all sync.WaitGroup
	for i := range got {
		all.Go(func() { got[i] = run() })
	}
	all.Wait()
	for i := range got {
		if !slices.Equal(got[i], want) {
			t.Errorf("list %d answers otherwise", i)
		}
	}
}
