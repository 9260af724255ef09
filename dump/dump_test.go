package dump

import (
	"strings"
	"testing"

	"cistern/api"
	"cistern/keyspace"
)

// TestDU2Dump: DUMP tells the payload of a value of each kind in each encoding, packed as the space's Config says; that changes nothing, and is no use of the key.
func TestDU2Dump(t *testing.T) {
	for _, compress := range []bool{false, true} {
		p := newTrial(t, middle, compress)
		for db := range databases {
			for _, s := range samples() {
				p.give(db, s.name, s.v)
			}
			p.expire(db, "a text", 50)
		}
		for db := range databases {
			for _, s := range samples() {
				want, _ := refPayload(s.v, compress)
				p.keepsIn(db, "$"+want, "DUMP", s.name)
				p.keepsIn(db, "$"+want, "dump", s.name)
			}
		}
	}
}

// TestDU2DumpNone: null is told of a key that is not there, never was there, or whose time has come.
func TestDU2DumpNone(t *testing.T) {
	p := begun(t)
	p.keeps("_", "DUMP", "none")
	p.keeps("_", "DUMP", "")
	p.keeps("_", "DUMP", "k")
	p.keeps("_", "DUMP", "STR")
	p.keeps("_", "DUMP", strings.Repeat("k", maxKey+1))
	p.advance(499)
	if got := p.ask("DUMP", "timed"); got[0] != '$' {
		t.Errorf("DUMP ahead of the time: %q", got)
	}
	p.advance(1)
	p.keeps("_", "DUMP", "timed")
	p.sp.Drop(0, "str")
	p.m.drop(0, "str")
	p.keeps("_", "DUMP", "str")
	for _, db := range []int{-1, databases, -1 << 63, 1<<63 - 1} {
		p.keepsIn(db, "_", "DUMP", "list")
	}
	p.give(0, "", made(1, middle, ""))
	p.keeps("$"+payloadOf(0, "\x00"), "DUMP", "")
}

// TestDU2DumpConfig: what Adjust has said last tells whether a payload is packed.
func TestDU2DumpConfig(t *testing.T) {
	long := made(1, middle, strings.Repeat("long", 500))
	p := newTrial(t, middle, false)
	p.give(0, "a", long)
	sizes := map[bool]int{}
	for _, compress := range []bool{false, true, false, true} {
		c := p.sp.Config()
		c.Compress = compress
		if e := p.sp.Adjust(c); e != api.OK {
			t.Fatalf("Adjust: error %d", e)
		}
		p.m.compress = compress
		want, _ := refPayload(long, compress)
		p.keeps("$"+want, "DUMP", "a")
		sizes[compress] = len(want)
	}
	if sizes[false] != 1+2+2000+10 || sizes[true] > 100 {
		t.Errorf("bytes: %v", sizes)
	}
}

// TestDU2DumpEmptied: of a value that was emptied behind the space's back the Fault of the error is told.
func TestDU2DumpEmptied(t *testing.T) {
	for _, kind := range kinds[1:] {
		sp := newSpace(middle, true)
		sp.Put(0, "a", made(kind, middle, "1", "2"))
		v, _ := sp.Peek(0, "a")
		v.Pop(true, 2)
		v.Drop("1", "2")
		v.ZDrop("1")
		v.Erase("1")
		if got := told(Do(sp, 0, []string{"DUMP", "a"})); got != "-"+badFormat {
			t.Errorf("kind %d: %s", kind, got)
		}
	}
}

// TestDU2DumpUse: what is given up first does not hang on DUMP, but does on RESTORE.
func TestDU2DumpUse(t *testing.T) {
	sp, _ := keyspace.New(api.Config{Spaces: 1, Memory: 300, Policy: api.PolicyOldest, Limits: middle})
	for _, key := range []string{"a", "b"} {
		sp.Put(0, key, made(1, middle, "x"))
	}
	r := Do(sp, 0, []string{"DUMP", "a"})
	if got := []int{sp.Idle(0, "a"), sp.Idle(0, "b")}; got[0] != 1 || got[1] != 0 {
		t.Errorf("idle behind DUMP: %d", got)
	}
	if gone, _ := sp.Clone().Spare(100); len(gone) != 1 || gone[0] != "0:a" {
		t.Errorf("%q went", gone)
	}
	Do(sp, 0, []string{"RESTORE", "a", "0", r.Text, "REPLACE"})
	if got := []int{sp.Idle(0, "a"), sp.Idle(0, "b")}; got[0] != 0 || got[1] != 1 {
		t.Errorf("idle behind RESTORE: %d", got)
	}
	if gone, _ := sp.Clone().Spare(100); len(gone) != 1 || gone[0] != "0:b" {
		t.Errorf("%q went", gone)
	}
}
