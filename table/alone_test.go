package table

import (
	"slices"
	"strings"
	"sync"
	"testing"
	"unsafe"

	"cistern/api"
)

// TestP1Mixed: words of any kind, held against the model.
func TestP1Mixed(t *testing.T) {
	t.Parallel()
	model := newModel(t)
	names := All()
	m := mix(1)
	odd := append(notCounts(), "fly", "get ", "it's", "\x00\xff", strings.Repeat("n", 130))
	text := func() string {
		switch m.below(6) {
		case 0:
			return names[m.below(len(names))]
		case 1:
			return odd[m.below(len(odd))]
		case 2:
			b := make([]byte, m.below(20))
			for i := range b {
				b[i] = byte(m.below(256))
			}
			return string(b)
		}
		return string(rune('0' + m.below(10)))
	}
	for range 60000 {
		args := make([]string, m.below(12))
		for i := range args {
			args[i] = text()
		}
		if len(args) > 0 && m.below(10) > 0 {
			args[0] = names[m.below(len(names))]
			if m.below(2) == 0 {
				args[0] = strings.ToUpper(args[0])
			}
		}
		model.hold(t, args)
	}
}

// shared tells whether two texts have memory in common.
func shared(a, b string) bool {
	if a == "" || b == "" {
		return false
	}
	from, to := uintptr(unsafe.Pointer(unsafe.StringData(a))), uintptr(unsafe.Pointer(unsafe.StringData(b)))
	return from < to+uintptr(len(b)) && to < from+uintptr(len(a))
}

// TestP2Kept: a list that is told is its caller's, and what is handed in stays as it is.
func TestP2Kept(t *testing.T) {
	want := All()
	got := All()
	all := got[:cap(got)]
	for i := range all {
		all[i] = "spoilt"
	}
	_ = append(got[:0], "more")
	if !slices.Equal(All(), want) {
		t.Errorf("All() = %q", All())
	}
	for _, line := range []string{"mget a b c", "mset a 1 b 2", "zunionstore d 2 a b weights", "zinter 2 a b", "get a", "rename a b"} {
		room := append(strings.Split(line, " "), "spare", "room")
		args := room[:len(room)-2]
		before := slices.Clone(room)
		keys, e := Keys(args)
		again, _ := Keys(args)
		if e != api.OK || !slices.Equal(room, before) {
			t.Errorf("%q: %d, %q", before, e, room)
		}
		all := keys[:cap(keys)]
		for i := range all {
			all[i] = "spoilt"
		}
		if !slices.Equal(room, before) {
			t.Errorf("%q has become %q", before, room)
		}
		for i := range args {
			args[i] = "other"
		}
		if slices.Contains(again, "other") || slices.Contains(again, "spoilt") {
			t.Errorf("%q: %q", before, again)
		}
	}
}

// TestP2Texts: texts that are told share no memory with those that are handed in.
func TestP2Texts(t *testing.T) {
	args := []string{"ZUNIONSTORE", "destination", "2", "one", "two"}
	keys, _ := Keys(args)
	if len(keys) != 3 {
		t.Fatalf("%q", keys)
	}
	for _, key := range keys {
		for _, word := range args {
			if shared(key, word) {
				t.Errorf("%q of %q", key, word)
			}
		}
	}
	for _, s := range []string{"get", "GET", strings.Repeat("x", 100)} {
		if shared(Lower(s), s) {
			t.Errorf("Lower(%q) shares memory", s)
		}
		if spec, _ := Find(s); shared(spec.Name, s) {
			t.Errorf("Find(%q) shares memory", s)
		}
		if shared(Trouble([]string{s}), s) {
			t.Errorf("Trouble(%q) shares memory", s)
		}
	}
}

// TestP2AtOnce: many callers at one time, each told the same.
func TestP2AtOnce(t *testing.T) {
	want := All()
	var group sync.WaitGroup
	for n := range 8 {
		group.Go(func() {
			for i := range 200 {
				name := want[(i*(n+1))%len(want)]
				if s, ok := Find(name); !ok || s.Name != name {
					t.Errorf("Find(%q) = %+v", name, s)
				}
				list := All()
				if !slices.Equal(list, want) {
					t.Errorf("All() = %q", list)
				}
				clear(list)
				if keys, e := Keys([]string{"mset", "a", name, "b"}); e != api.OK || !slices.Equal(keys, []string{"a", "b"}) {
					t.Errorf("Keys: %q, %d", keys, e)
				}
				if got := Trouble([]string{name + "'"}); got != "ERR unknown command '"+name+"?'" {
					t.Errorf("Trouble: %q", got)
				}
			}
		})
	}
	group.Wait()
}
