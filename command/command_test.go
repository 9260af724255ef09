package command

import (
	"errors"
	"slices"
	"strings"
	"testing"

	"cistern/api"
	"cistern/keyspace"
	"cistern/resp"
)

func newSpace(t *testing.T) *keyspace.Space {
	t.Helper()
	sp, e := keyspace.New(api.Config{Spaces: 2, Limits: api.Thresholds{ListEntries: 3, SetInts: 2}})
	if e != api.OK {
		t.Fatalf("keyspace.New: error %d", e)
	}
	return sp
}

// own is a layer's call.
type own struct{ Call }

func newOwn(c Call) *own { return &own{c} }

// rows are commands: one tells its name and its words, one fails, one tells its database.
func rows() map[string]Row[*own] {
	return map[string]Row[*own]{
		"tell": Between(2, 3, func(c *own) (api.Reply, error) { return resp.Texts(append([]string{c.Name}, c.Args...)...), nil }),
		"fail": AtLeast(1, func(c *own) (api.Reply, error) { return resp.Int(1), errors.New("ERR so it is") }),
		"in":   Exactly(1, func(c *own) (api.Reply, error) { return resp.Int(c.DB), nil }),
	}
}

// TestDo: the name in any letters finds its row; words that are no command, or too few or too many, are unknown.
func TestDo(t *testing.T) {
	const unknown = "ERR unknown command"
	for _, c := range []struct{ line, want string }{
		{"tell a", "tell a"}, {"TELL A", "tell A"}, {"tElL a b", "tell a b"}, {"tell", unknown}, {"tell a b c", unknown},
		{"fail", "ERR so it is"}, {"fail " + strings.Repeat("x ", 50), "ERR so it is"}, {"", unknown}, {"fai", unknown}, {"faill", unknown}, {"in a", unknown},
	} {
		r := Do(rows(), newOwn, newSpace(t), 1, strings.Fields(c.line))
		got := r.Text
		for i, word := range r.List {
			got += strings.Repeat(" ", min(i, 1)) + word.Text
		}
		if got != c.want || r.N != 0 || (r.Kind == api.ReplyError) != strings.HasPrefix(c.want, "ERR") {
			t.Errorf("%q: %+v; want %s", c.line, r, c.want)
		}
	}
	for _, db := range []int{0, 1, -7} {
		if r := Do(rows(), newOwn, newSpace(t), db, []string{"in"}); r.Kind != api.ReplyInt || r.N != db {
			t.Errorf("in %d: %+v", db, r)
		}
	}
}

// TestNames: the names, rising.
func TestNames(t *testing.T) {
	if got := Names(rows()); !slices.Equal(got, []string{"fail", "in", "tell"}) {
		t.Errorf("Names = %q", got)
	}
}

// TestLook: what is under a key, by one use; of another kind than the one that is sought an error.
func TestLook(t *testing.T) {
	sp := newSpace(t)
	c := &Call{Space: sp, DB: 1}
	list, probe := c.New(api.KindList), c.New(api.KindString)
	list.Push(true, "a")
	sp.Put(1, "l", list)
	sp.Put(1, "probe", probe)
	if v := c.Look("l"); v != list || sp.Idle(1, "probe") != 1 {
		t.Errorf("Look: %v, %d uses", v, sp.Idle(1, "probe"))
	}
	if v, err := c.LookFor(api.KindList, "l"); v != list || err != nil || sp.Idle(1, "probe") != 2 {
		t.Errorf("LookFor: %v, %v, %d uses", v, err, sp.Idle(1, "probe"))
	}
	if _, err := c.LookFor(api.KindSet, "l"); told(err) != "WRONGTYPE Operation against a key holding the wrong kind of value" {
		t.Errorf("LookFor of another kind: %v", err)
	}
	if v, err := c.LookFor(api.KindSet, "none"); v != nil || err != nil {
		t.Errorf("LookFor of none: %v, %v", v, err)
	}
	if v := (&Call{Space: sp, DB: 9}).Look("l"); v != nil {
		t.Errorf("Look in no database: %v", v)
	}
}

// TestNew: an empty value of each kind, with the space's thresholds.
func TestNew(t *testing.T) {
	sp := newSpace(t)
	c := &Call{Space: sp}
	for _, kind := range []int{api.KindString, api.KindList, api.KindSet, api.KindZset, api.KindHash} {
		if v := c.New(kind); v.Kind() != kind || v.Len() != 0 {
			t.Errorf("New(%d): kind %d, %d elements", kind, v.Kind(), v.Len())
		}
	}
	set := c.New(api.KindSet)
	set.Add("1", "2")
	was := set.Encoding()
	set.Add("3")
	if was != "intset" || set.Encoding() != "hashtable" {
		t.Errorf("a set of two numbers is %s, of three %s", was, set.Encoding())
	}
}
