package persist

import (
	"runtime"
	"testing"
	"unsafe"

	"cistern/api"
	"cistern/simfs"
)

// block is the i-th 4096 bytes of the longest text, each unlike the others.
func block(i int) [4096]byte {
	return [4096]byte{0: byte(i), 1: byte(i >> 8), 2: byte(i >> 16), 4095: 1}
}

// longestOf is a text of so many blocks, and a byte more; it is laid down once, as it is great.
func longestOf(blocks int) string {
	b := make([]byte, 4096*blocks+1)
	for i := range blocks {
		x := block(i)
		copy(b[4096*i:], x[:])
	}
	return unsafe.String(&b[0], len(b))
}

// TestP241Longest: a text of MaxFile bytes is saved and copied, one of a byte more is refused, behind ErrArg and ahead of all else.
func TestP241Longest(t *testing.T) {
	text := longestOf(api.MaxFile / 4096)
	tooLong(t, text)
	f := simfs.New()
	if err := Save(f, text[:api.MaxFile], 1); err != api.OK || f.Steps() != 1+16384+3 {
		t.Fatalf("error %d, %d steps", err, f.Steps())
	}
	text = ""
	runtime.GC()
	steps := f.Steps()
	if err := Save(f, "new", 1); err != api.OK || f.Steps() != steps+3+1+16384+1+1+1+1 {
		t.Fatalf("error %d, %d steps", err, f.Steps()-steps)
	}
	runtime.GC()
	got, err := f.Read("dump.rdb.1")
	if text, _ := f.Read("dump.rdb"); len(got) != api.MaxFile || err != api.OK || text != "new" {
		t.Fatalf("%d bytes, error %d", len(got), err)
	}
	for i := range api.MaxFile / 4096 {
		if want := block(i); got[4096*i:4096*(i+1)] != string(want[:]) {
			t.Fatalf("other bytes from %d on", 4096*i)
		}
	}
}

// tooLong holds what is answered of a text of more than MaxFile bytes.
func tooLong(t *testing.T, text string) {
	t.Helper()
	f := disk(t, "dump.rdb", "old", "temp-save", "left", "dump.rdb.1", "older")
	for range 2 {
		before := seen(f)
		for _, keep := range []int{-1, 0, 1, api.MaxKeep, api.MaxKeep + 1} {
			want := api.ErrLong
			if keep < 0 || keep > api.MaxKeep {
				want = api.ErrArg
			}
			if err := Save(f, text, keep); err != want || seen(f) != before {
				t.Fatalf("keep %d: error %d, %s", keep, err, seen(f))
			}
		}
		f.Crash(0)
	}
}
