package persist

import (
	"fmt"
	"strings"
	"sync"
	"testing"
	"unsafe"

	"cistern/api"
	"cistern/simfs"
)

// own is a text whose bytes the test can change behind the program's back.
func own(s string) (string, []byte) {
	b := []byte(s)
	if len(b) == 0 {
		return "", b
	}
	return unsafe.String(&b[0], len(b)), b
}

// shares tells whether two texts lie in the same memory.
func shares(a, b string) bool {
	if a == "" || b == "" {
		return false
	}
	from, other := uintptr(unsafe.Pointer(unsafe.StringData(a))), uintptr(unsafe.Pointer(unsafe.StringData(b)))
	return from < other+uintptr(len(b)) && other < from+uintptr(len(a))
}

// TestP2Text: a text that is saved stays as it is, and the file does not hang on it later.
func TestP2Text(t *testing.T) {
	for _, n := range []int{1, 10, 65536, 65537, 200000} {
		f := disk(t, "dump.rdb", "old", "dump.rdb.1", "older")
		want := long(n, 4)
		text, bytes := own(want)
		if err := Save(f, text, 2); err != api.OK || string(bytes) != want {
			t.Fatalf("%d bytes: error %d, or the text is changed", n, err)
		}
		for i := range bytes {
			bytes[i] ^= 0x55
		}
		if liveOf(f).text != want || under(f.Safe(), "dump.rdb").text != want {
			t.Errorf("%d bytes: the file hangs on bytes that were changed later", n)
		}
		again := f.Clone()
		if err := Save(again, "next", 2); err != api.OK || under(again.Now(), "dump.rdb.1").text != want || liveOf(f).text != want {
			t.Errorf("%d bytes: error %d, %s", n, err, seen(again))
		}
	}
}

// TestP2Answers: what is told is new memory each time, and no two texts of one answer share any.
func TestP2Answers(t *testing.T) {
	f := simfs.New()
	for range 9 {
		if err := Save(f, strings.Repeat("same", 50), 8); err != api.OK {
			t.Fatalf("error %d", err)
		}
	}
	a, _, _ := Load(f)
	b, _, _ := Load(f)
	list, _ := Older(f)
	again, _ := Older(f)
	texts := append(append([]string{a, b}, list...), again...)
	if len(texts) != 18 {
		t.Fatalf("%d texts", len(texts))
	}
	for i, x := range texts {
		for _, y := range texts[:i] {
			if shares(x, y) || x != y {
				t.Fatalf("text %d shares memory with another, or is another", i)
			}
		}
	}
	if spare := list[:cap(list)]; &spare[0] == &again[:1][0] {
		t.Error("two lists share memory")
	}
	list[0] = "changed"
	if now, _ := Older(f); now[0] == "changed" {
		t.Error("the list is kept")
	}
}

// TestP2Look: Load without temporary files, Older and Tidy without any change nothing, and meet no failure that is planned.
func TestP2Look(t *testing.T) {
	f := disk(t, "dump.rdb", "live", "dump.rdb.2", "older", "x", "y")
	put(t, f, "dump.rdb.1", "not safe")
	f.Fail(1, 0)
	before := seen(f)
	for range 3 {
		Load(f)
		Older(f)
		Tidy(f)
		if seen(f) != before {
			t.Fatalf("%s, was %s", seen(f), before)
		}
	}
	if err := f.SyncDir(); err != api.ErrIO {
		t.Errorf("the planned failure was met already: %d", err)
	}
}

// TestP2Apart: calls on several file systems at once are as they are one by one.
func TestP2Apart(t *testing.T) {
	run := func(seed int) string {
		m := mix(seed*5 + 2)
		f := simfs.New()
		var out []string
		for i := range 60 {
			if m.below(5) == 0 {
				f.Fail(1+m.below(9), m.below(5))
			}
			if m.below(12) == 0 {
				f.Crash(1+m.below(12), m.picks()...)
			}
			if !f.Up() {
				f.Start()
			}
			e := Save(f, fmt.Sprint("text ", i), m.below(9))
			text, there, err := Load(f)
			list, older := Older(f)
			out = append(out, fmt.Sprint(e, text, there, err, list, older))
		}
		return strings.Join(out, "\n") + seen(f)
	}
	var alone, both [16]string
	for i := range alone {
		alone[i] = run(i)
	}
	var wait sync.WaitGroup
	for i := range both {
		wait.Add(1)
		go func() {
			defer wait.Done()
			both[i] = run(i)
		}()
	}
	wait.Wait()
	if alone != both {
		t.Error("calls on one file system hang on those on another")
	}
}
