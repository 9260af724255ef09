package codec

import (
	"slices"
	"strings"
	"testing"

	"cistern/api"
)

// nodes is the body of a list of nodes.
func nodes(packs ...string) string {
	var b strings.Builder
	b.WriteString(length(len(packs)))
	for _, p := range packs {
		b.WriteString("\x02" + plain(p))
	}
	return b.String()
}

func bounds(entries, bytes int) api.Thresholds {
	th := middle
	th.ListEntries, th.ListBytes = entries, bytes
	return th
}

// TestDecodeListTaken: nodes that the thresholds take stay as they are, however they came to be.
func TestDecodeListTaken(t *testing.T) {
	long := strings.Repeat("l", 9)
	cases := []struct {
		th       api.Thresholds
		encoding string
		packs    []string
	}{
		{bounds(4, 8), "listpack", []string{pack("a")}},
		{bounds(4, 8), "listpack", []string{pack("a", "b", "c", "d")}},
		{bounds(4, 8), "listpack", []string{pack(long)}},
		{bounds(1, 0), "listpack", []string{pack("a")}},
		{bounds(4, 8), "quicklist", []string{pack("a"), pack("b")}},
		{bounds(4, 8), "quicklist", []string{pack("a", "b"), pack(long), pack("c")}},
		{bounds(1, 0), "quicklist", []string{pack(""), pack("b"), pack("c")}},
		{bounds(4096, 4096), "quicklist", []string{pack("a"), pack("b"), pack("c")}},
	}
	for _, c := range cases {
		v, e := Decode(18, nodes(c.packs...), c.th)
		if e != api.OK || v.Encoding() != c.encoding || !slices.Equal(v.Raw(), c.packs) {
			t.Errorf("%q with %d, %d: %d", c.packs, c.th.ListEntries, c.th.ListBytes, e)
			continue
		}
		checkSound(t, v, 18, c.th)
	}
}

// TestDecodeListPushed: nodes that the thresholds refuse, but 4096 and 4096 would take, are laid down anew.
func TestDecodeListPushed(t *testing.T) {
	long := strings.Repeat("l", 9)
	cases := []struct {
		th       api.Thresholds
		encoding string
		packs    []string
		want     []string
	}{
		{bounds(2, 8), "quicklist", []string{pack("a", "b", "c")}, []string{pack("a", "b"), pack("c")}},
		{bounds(3, 8), "quicklist", []string{pack("a"), pack("b", "c", "d", "e")}, []string{pack("a", "b", "c"), pack("d", "e")}},
		{bounds(3, 8), "quicklist", []string{pack("b", "c", "d", "e"), pack("a")}, []string{pack("b", "c", "d"), pack("e", "a")}},
		{bounds(4, 8), "quicklist", []string{pack("a", long)}, []string{pack("a"), pack(long)}},
		{bounds(4, 8), "quicklist", []string{pack(long, "a")}, []string{pack(long), pack("a")}},
		{bounds(4, 8), "quicklist", []string{pack(long, long)}, []string{pack(long), pack(long)}},
		{bounds(2, 8), "quicklist", []string{pack("a", "b"), pack("c", long, "d"), pack("e", "f")}, []string{pack("a", "b"), pack("c"), pack(long), pack("d", "e"), pack("f")}},
		{bounds(1, 8), "quicklist", []string{pack("a", "b"), pack("c")}, []string{pack("a"), pack("b"), pack("c")}},
		{bounds(4, 0), "quicklist", []string{pack("", "", "b", "", "c")}, []string{pack("", ""), pack("b"), pack(""), pack("c")}},
		{bounds(4095, 8), "quicklist", []string{pack(counted(4096, 7)...)}, []string{pack(counted(4096, 7)[:4095]...), pack(counted(4096, 7)[4095])}},
		{bounds(4096, 4095), "quicklist", []string{pack("a", strings.Repeat("l", 4096))}, []string{pack("a"), pack(strings.Repeat("l", 4096))}},
		{bounds(2, 8), "quicklist", []string{pack("a", "b", "c"), pack(strings.Repeat("l", 5000))}, []string{pack("a", "b"), pack("c"), pack(strings.Repeat("l", 5000))}},
	}
	for _, c := range cases {
		v, e := Decode(18, nodes(c.packs...), c.th)
		if e != api.OK || v.Encoding() != c.encoding || !slices.Equal(v.Raw(), c.want) {
			t.Errorf("%.60q with %d, %d: error %d, other nodes", c.packs, c.th.ListEntries, c.th.ListBytes, e)
			continue
		}
		checkSound(t, v, 18, c.th)
	}
}

// TestDecodeListMixed: many lists of nodes of all sorts against the chapter's words: pushed one by one.
func TestDecodeListMixed(t *testing.T) {
	m := mix(11)
	for range 3000 {
		var packs []string
		for range 1 + m.below(6) {
			var entries []string
			for range 1 + m.below(7) {
				entries = append(entries, m.text(m.below(6), 26))
			}
			packs = append(packs, pack(entries...))
		}
		checkValue(t, 18, nodes(packs...), bounds(1+m.below(7), m.below(6)))
	}
}

// TestDecodeListRefused: nodes that both refuse.
func TestDecodeListRefused(t *testing.T) {
	large := strings.Repeat("l", 4097)
	checkRefused(t, []refused{
		{"too many elements of a node", 18, nodes(pack(counted(4097, 7)...)), api.ErrValue},
		{"a large element with another", 18, nodes(pack("a", large)), api.ErrValue},
		{"the second node", 18, nodes(pack("a"), pack(large, "a")), api.ErrValue},
		{"an empty node", 18, nodes(pack("a", "b", "c"), pack()), api.ErrValue},
		{"no listpack behind one that is refused", 18, nodes(pack(counted(9, 200)...), "abc"), api.ErrValue},
	})
}

// TestDecodeListMaxCount: MaxCount elements are a list's, however its nodes are cut; one more is refused.
func TestDecodeListMaxCount(t *testing.T) {
	full := make([]string, 4096)
	for i := range full {
		full[i] = textOf(i)
	}
	packs := slices.Repeat([]string{pack(full...)}, api.MaxCount/4096)
	for _, entries := range []int{1, 100, 4095, 4096} {
		v, e := Decode(18, nodes(packs...), bounds(entries, 64))
		if e != api.OK || v.Len() != api.MaxCount || len(v.Raw()) != (api.MaxCount+entries-1)/entries {
			t.Fatalf("MaxCount elements in nodes of %d: %d", entries, e)
		}
		if s, _ := v.At(api.MaxCount - 2); s != "4094" {
			t.Errorf("MaxCount elements in nodes of %d: the last but one is %q", entries, s)
		}
		if v, e := Decode(18, nodes(append(packs, pack("a"))...), bounds(entries, 64)); v != nil || e != api.ErrValue {
			t.Errorf("one more, nodes of %d: %d", entries, e)
		}
	}
	alone := slices.Repeat([]string{pack("a")}, api.MaxCount)
	v, e := Decode(18, nodes(alone...), bounds(1, 1))
	if e != api.OK || len(v.Raw()) != api.MaxCount {
		t.Fatalf("MaxCount nodes: %d", e)
	}
	if typ, body, e := Encode(v, true); typ != 18 || body != nodes(alone...) || e != api.OK {
		t.Errorf("MaxCount nodes, written again: %d, %s, %d", typ, short(body), e)
	}
	if v, e := Decode(18, nodes(append(alone, pack("a"))...), bounds(1, 1)); v != nil || e != api.ErrLong {
		t.Errorf("one node more: %d", e)
	}
}

// TestNodesPushed: a list that was laid down anew answers later calls as one to which all was pushed.
func TestNodesPushed(t *testing.T) {
	m := mix(5)
	for range 300 {
		th := bounds(1+m.below(5), m.below(5))
		entries := make([]string, 1+m.below(30))
		for i := range entries {
			entries[i] = m.text(m.below(6), 26)
		}
		v, e := Decode(18, nodes(pack(entries...)), th)
		if e != api.OK {
			t.Fatal(e)
		}
		w := listValue(th, entries...)
		for range 20 {
			seed := m
			change(&m, v, api.KindList)
			change(&seed, w, api.KindList)
			if !same(v, w) {
				t.Fatalf("%q with %v: unlike behind a change", entries, th)
			}
		}
	}
}
