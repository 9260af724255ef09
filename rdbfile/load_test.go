package rdbfile

import (
	"fmt"
	"math"
	"strings"
	"testing"

	"cistern/api"
	"cistern/codec"
	"cistern/keyspace"
)

// refLoad is the space of an image that may be, all of whose bodies may be read.
func refLoad(t testing.TB, i api.Image, c api.Config, now int) *keyspace.Space {
	t.Helper()
	sp := newSpace(t, c)
	sp.Advance(now)
	for _, space := range i.Spaces {
		for _, item := range space.Items {
			if item.Expiry >= 0 && item.Expiry <= now {
				continue
			}
			v, e := codec.Decode(item.Type, item.Body, c.Limits)
			if e != api.OK || sp.Put(space.Index, item.Key, v) != api.OK {
				t.Fatalf("%+v: error %d", item, e)
			}
			if item.Expiry >= 0 {
				sp.Expire(space.Index, item.Key, item.Expiry)
			}
		}
	}
	return sp
}

// checkLoad loads an image that may be loaded, and holds the space against the chapter's words.
func checkLoad(t testing.TB, i api.Image, c api.Config, now int) *keyspace.Space {
	t.Helper()
	sp, e := Load(i, c, now)
	if e != api.OK {
		t.Fatalf("Load(%s, %v, %d): error %d", shortImage(i), c, now, e)
	}
	sameSpace(t, sp, refLoad(t, i, c, now))
	return sp
}

// checkRefused holds that Load answers an error, and nothing else.
func checkRefused(t testing.TB, name string, i api.Image, c api.Config, now int, want api.Errno) {
	t.Helper()
	if sp, e := Load(i, c, now); sp != nil || e != want {
		t.Errorf("%s: %v, %d; want %d", name, sp, e, want)
	}
}

// TestLoad: images of all sorts, with clocks of all sorts.
func TestLoad(t *testing.T) {
	for _, i := range samples() {
		for _, th := range several {
			for _, now := range []int{0, 1, 5, 6, 8, api.MaxNumber - 1, api.MaxNumber} {
				c := config(api.MaxSpaces, th)
				if sp := checkLoad(t, i, c, now); sp.Now() != now || sp.Config() != c {
					t.Errorf("%d, %v", sp.Now(), sp.Config())
				}
			}
		}
	}
	m := mix(7)
	for range 500 {
		checkLoad(t, someImage(&m), config(api.MaxSpaces, of(&m, several...)), of(&m, 0, m.below(100), api.MaxNumber))
	}
}

// TestLoadExpiries: expiries below, at and above the clock.
func TestLoadExpiries(t *testing.T) {
	var items []api.Item
	for n, at := range []int{-1, 0, 49, 50, 51, api.MaxNumber} {
		items = append(items, api.Item{Key: fmt.Sprint(n), Body: "\x00", Expiry: at})
	}
	for now, want := range map[int]string{
		0: "[0 2 3 4 5]", 48: "[0 2 3 4 5]", 49: "[0 3 4 5]", 50: "[0 4 5]", 51: "[0 5]", api.MaxNumber - 1: "[0 5]", api.MaxNumber: "[0]",
	} {
		sp := checkLoad(t, one(items...), config(1, middle), now)
		if got := fmt.Sprint(sp.Keys(0)); got != want {
			t.Errorf("now %d: %s; want %s", now, got, want)
		}
		for _, key := range sp.Keys(0) {
			var n int
			fmt.Sscan(key, &n)
			if at, ok := sp.Expiry(0, key); at != items[n].Expiry || !ok {
				t.Errorf("%s: %d", key, at)
			}
		}
	}
}

// TestLoadOrder: the items are put in their order, each with its expiry, and the clock is now.
func TestLoadOrder(t *testing.T) {
	i := api.Image{Spaces: []api.Space{
		{Index: 1, Items: []api.Item{{Key: "c", Body: "\x00", Expiry: -1}, {Key: "a", Body: "\x00", Expiry: 99}, {Key: "gone", Body: "\x00", Expiry: 7}, {Key: "b", Body: "\x00", Expiry: -1}}},
		{Index: 3, Items: []api.Item{{Key: "a", Body: "\x00", Expiry: -1}}},
	}}
	sp := checkLoad(t, i, config(4, middle), 7)
	for n, c := range []struct {
		db         int
		key        string
		mark, idle int
	}{{1, "c", 1, 3}, {1, "a", 3, 2}, {1, "b", 4, 1}, {3, "a", 5, 0}, {1, "gone", 0, -1}} {
		if mark, idle := sp.Mark(c.db, c.key), sp.Idle(c.db, c.key); mark != c.mark || idle != c.idle {
			t.Errorf("%d: mark %d, idle %d", n, mark, idle)
		}
	}
	if sp.Now() != 7 || sp.Len(-1) != 4 {
		t.Errorf("now %d, %d keys", sp.Now(), sp.Len(-1))
	}
}

// TestLoadConfig: configurations that cannot be, and clocks that cannot be.
func TestLoadConfig(t *testing.T) {
	good := api.Config{Spaces: 2, Memory: 1, Policy: api.PolicySoonest, Keep: api.MaxKeep, Compress: true, Limits: middle}
	i := one(every()...)
	checkLoad(t, i, good, 0)
	for n, spoil := range []func(c *api.Config){
		func(c *api.Config) { c.Spaces = 0 },
		func(c *api.Config) { c.Spaces = -1 },
		func(c *api.Config) { c.Spaces = api.MaxSpaces + 1 },
		func(c *api.Config) { c.Memory = -1 },
		func(c *api.Config) { c.Policy = -1 },
		func(c *api.Config) { c.Policy = api.PolicySoonest + 1 },
		func(c *api.Config) { c.Keep = -1 },
		func(c *api.Config) { c.Keep = api.MaxKeep + 1 },
		func(c *api.Config) { c.Limits = api.Thresholds{} },
		func(c *api.Config) { c.Limits.ListEntries = 0 },
		func(c *api.Config) { c.Limits.HashBytes = 4097 },
	} {
		c := good
		spoil(&c)
		checkRefused(t, fmt.Sprint("configuration ", n), i, c, 0, api.ErrArg)
		checkRefused(t, fmt.Sprint("configuration ", n, ", no items"), api.Image{}, c, 0, api.ErrArg)
	}
	for _, now := range []int{-1, math.MinInt, api.MaxNumber + 1, math.MaxInt} {
		checkRefused(t, fmt.Sprint("now ", now), i, good, now, api.ErrArg)
		checkRefused(t, fmt.Sprint("now ", now), api.Image{}, good, now, api.ErrArg)
	}
}

// TestLoadDatabases: databases that the configuration has, and one that it does not have.
func TestLoadDatabases(t *testing.T) {
	for spaces := 1; spaces <= api.MaxSpaces; spaces++ {
		for db := range api.MaxSpaces {
			i := one(texts(1)...)
			i.Spaces[0].Index = db
			if db > 0 {
				i.Spaces = append(one(texts(1)...).Spaces, i.Spaces...)
			}
			if db < spaces {
				checkLoad(t, i, config(spaces, middle), 3)
			} else {
				checkRefused(t, fmt.Sprint("database ", db), i, config(spaces, middle), 3, api.ErrArg)
			}
		}
	}
	gone := one(api.Item{Key: "k", Body: "\x00", Expiry: 1})
	gone.Spaces[0].Index = 2
	checkRefused(t, "a database of keys whose time has come", gone, config(2, middle), 3, api.ErrArg)
}

// TestLoadBodies: bodies that codec.Decode refuses: of the first one in order, whether or not its time has come, behind all that is ErrArg.
func TestLoadBodies(t *testing.T) {
	bad := []api.Item{
		{Type: 2, Body: "\x00"}, {Type: 18, Body: "\x00"}, {Type: 11, Body: "\x03abc"}, {Type: 20, Body: plain(pack("a", "a"))}, {Type: 16, Body: plain(pack("a"))},
		{Type: 0, Body: packed("\x01a", 2)}, {Type: 0, Body: packed("\x00a", 2)}, {Type: 0, Body: packed("\x20\x00", 3)}, {Type: 0, Body: packed("\x00a", api.MaxElement+1)},
		{Type: 0, Body: plain(strings.Repeat("x", api.MaxElement+1))}, {Type: 3, Body: "\x01\x01a\x01b"}, {Type: 2, Body: "\x02\x01b\x01a"},
	}
	met := map[api.Errno]bool{}
	for n, a := range bad {
		_, want := codec.Decode(a.Type, a.Body, middle)
		met[want] = true
		if codec.Checked(a.Type, a.Body) == api.OK || want == api.OK {
			t.Fatalf("%d: a body that is one", n)
		}
		for _, b := range bad {
			for _, at := range []int{-1, 0, 3, 9} {
				first := api.Item{Key: "first", Type: a.Type, Body: a.Body, Expiry: at}
				second := api.Item{Key: "second", Type: b.Type, Body: b.Body, Expiry: 9 - at}
				good := api.Item{Key: "good", Body: "\x00", Expiry: -1}
				i := api.Image{Spaces: []api.Space{{Index: 0, Items: []api.Item{good, first, second}}}}
				checkRefused(t, "a body", i, config(4, middle), 5, want)
				i = api.Image{Spaces: []api.Space{{Index: 1, Items: []api.Item{first, good}}, {Index: 3, Items: []api.Item{second}}}}
				checkRefused(t, "a body", i, config(4, middle), 5, want)
				checkRefused(t, "a body, and a database that is not there", i, config(3, middle), 5, api.ErrArg)
				checkRefused(t, "a body, and a clock that can't be", i, config(4, middle), -5, api.ErrArg)
				checkRefused(t, "a body, and a configuration that can't be", i, config(0, middle), 5, api.ErrArg)
				i.Spaces[1].Items[0].Expiry = -2
				checkRefused(t, "a body, and an expiry that can't be", i, config(4, middle), 5, api.ErrArg)
			}
		}
	}
	for _, e := range []api.Errno{api.ErrValue, api.ErrShort, api.ErrSize, api.ErrRef, api.ErrLong} {
		if !met[e] {
			t.Errorf("error %d was not met", e)
		}
	}
}

// TestLoadThresholds: bodies are read with the configuration's thresholds.
func TestLoadThresholds(t *testing.T) {
	i := one(api.Item{Key: "s", Type: 20, Body: plain(pack("a", "b")), Expiry: -1}, api.Item{Key: "n", Type: 11, Body: plain(ints(1, 2)), Expiry: -1}, api.Item{Key: "l", Type: 18, Body: "\x01\x02" + plain(pack("a", "b")), Expiry: -1})
	for _, c := range []struct {
		th      api.Thresholds
		s, n, l string
	}{{least, "hashtable", "hashtable", "quicklist"}, {most, "listpack", "intset", "listpack"}, {middle, "listpack", "intset", "listpack"}} {
		sp := checkLoad(t, i, config(1, c.th), 0)
		for key, want := range map[string]string{"s": c.s, "n": c.n, "l": c.l} {
			if v, _ := sp.Peek(0, key); v.Encoding() != want {
				t.Errorf("%s: %s; want %s", key, v.Encoding(), want)
			}
		}
	}
}

// TestLoadMany: MaxKeys items, and a bound of memory that they do not keep within.
func TestLoadMany(t *testing.T) {
	i := one(texts(api.MaxKeys)...)
	c := config(1, middle)
	c.Memory, c.Policy = 100, api.PolicyOldest
	sp, e := Load(i, c, 0)
	if e != api.OK || sp.Len(-1) != api.MaxKeys {
		t.Fatalf("error %d", e)
	}
	checkRefused(t, "one more", one(texts(api.MaxKeys+1)...), c, 0, api.ErrArg)
}
