package command

import (
	"slices"
	"strings"
	"testing"

	"cistern/api"
	"cistern/value"
)

// fill gives a function that adds members to a set.
func fill(members ...string) func(v *value.Value) api.Errno {
	return func(v *value.Value) api.Errno {
		_, e := v.Add(members...)
		return e
	}
}

// TestHold: what is found of a key that is there, that is not, and that is of another kind.
func TestHold(t *testing.T) {
	c := &Call{Space: newSpace(t), DB: 1}
	if err := c.Make(api.KindSet, "s", fill("b", "a")); err != nil {
		t.Fatal(err)
	}
	h, err := c.Hold(api.KindSet, "s")
	names, next := h.Scan(0, 10)
	slices.Sort(names)
	if err != nil || !h.There() || h.Len() != 2 || h.Key != "s" || h.Call != c || next != 0 || strings.Join(names, " ") != "a b" {
		t.Errorf("a set: %+v, %v, %d members, %q, %d", h, err, h.Len(), names, next)
	}
	h, err = c.Hold(api.KindSet, "none")
	names, next = h.Scan(7, 10)
	if err != nil || h.There() || h.Len() != 0 || len(names) != 0 || next != 0 {
		t.Errorf("none: %+v, %v, %d members, %q, %d", h, err, h.Len(), names, next)
	}
	if _, err = c.Hold(api.KindList, "s"); told(err) != "WRONGTYPE Operation against a key holding the wrong kind of value" {
		t.Errorf("another kind: %v", err)
	}
}

// TestChanged: the space is told that a value was worked on, by which it goes, if it is empty.
func TestChanged(t *testing.T) {
	c := &Call{Space: newSpace(t), DB: 1}
	c.Make(api.KindSet, "s", fill("a"))
	h, _ := c.Hold(api.KindSet, "s")
	mark := c.Space.Mark(1, "s")
	h.Changed()
	if c.Space.Mark(1, "s") != mark+1 {
		t.Errorf("the mark %d has become %d", mark, c.Space.Mark(1, "s"))
	}
	h.Value.Drop("a")
	h.Changed()
	if c.Space.Len(1) != 0 {
		t.Error("an empty set is still there")
	}
}

// TestMake: a key that is not there, or is of any kind, gets a new value; one that can't be filled, or put, changes nothing.
func TestMake(t *testing.T) {
	c := &Call{Space: newSpace(t)}
	c.Space.Put(0, "k", c.New(api.KindString))
	c.Space.Expire(0, "k", 77)
	if err := c.Make(api.KindSet, "k", fill("a")); err != nil {
		t.Fatal(err)
	}
	v, _ := c.Space.Peek(0, "k")
	if due, _ := c.Space.Expiry(0, "k"); v.Kind() != api.KindSet || due != -1 {
		t.Errorf("kind %d, due %d", v.Kind(), due)
	}
	for want, make := range map[string]func() error{
		"ERR value is too large": func() error { return c.Make(api.KindSet, "k", fill(strings.Repeat("m", api.MaxElement+1))) },
		"WRONGTYPE Operation against a key holding the wrong kind of value": func() error { return c.Make(api.KindHash, "k", fill("b")) },
		"ERR syntax error": func() error { return (&Call{Space: c.Space, DB: 9}).Make(api.KindSet, "k", fill("b")) },
	} {
		mark := c.Space.Mark(0, "k")
		if err := make(); told(err) != want {
			t.Errorf("%v; want %s", err, want)
		}
		if now, _ := c.Space.Peek(0, "k"); now != v || c.Space.Mark(0, "k") != mark || c.Space.Len(-1) != 1 {
			t.Errorf("%s: something has changed", want)
		}
	}
}

// TestOnce: the first of each key, in their order; the list stays.
func TestOnce(t *testing.T) {
	list := []string{"b1", "a1", "b2", "c1", "a2", "b3"}
	kept := slices.Clone(list)
	key := func(s string) string { return s[:1] }
	if got := Once(key, list...); !slices.Equal(got, []string{"b1", "a1", "c1"}) || !slices.Equal(list, kept) {
		t.Errorf("Once = %q of %q", got, list)
	}
	if got := Once(key); len(got) != 0 {
		t.Errorf("Once of none = %q", got)
	}
}

// TestNamesOf: members without their scores, in their order.
func TestNamesOf(t *testing.T) {
	if got := NamesOf(api.Scored{Member: "b", Score: 1}, api.Scored{Member: "a", Score: 2}, api.Scored{}); !slices.Equal(got, []string{"b", "a", ""}) {
		t.Errorf("NamesOf = %q", got)
	}
	if got := NamesOf(); len(got) != 0 {
		t.Errorf("NamesOf nothing = %q", got)
	}
}
