package table

import (
	"strings"
	"testing"

	"cistern/api"
)

// TestTA2Examples: the chapter's examples of Check and Trouble.
func TestTA2Examples(t *testing.T) {
	if e := Check([]string{"get"}); e != api.ErrArity {
		t.Errorf("get: %d", e)
	}
	if s := Trouble([]string{"get"}); s != "ERR wrong number of arguments for 'get' command" {
		t.Errorf("get: %q", s)
	}
	if e := Check([]string{"fly", "1"}); e != api.ErrCommand {
		t.Errorf("fly: %d", e)
	}
}

// TestTA2None: no words, and first words that are no command.
func TestTA2None(t *testing.T) {
	m := newModel(t)
	for _, args := range [][]string{
		nil, {}, {""}, {"", "get"}, {"", "get", "a"}, {"fly"}, {"fly", "1"}, {"fly", "get", "a"}, {"get ", "a"}, {" get", "a"}, {"ge", "a"}, {"gets", "a"}, {"get\x00", "a"}, {"get\n", "a"}, {"ge\xf4", "a"}, {"\xff"}, {"get a"}, {"*2"}, {"$3", "get"},
		{strings.Repeat("get", 100), "a"}, {strings.Repeat("x", api.MaxElement)}, words("fly", 1000), words("fly", api.MaxArgs), words("", api.MaxArgs),
	} {
		if e := Check(args); e != api.ErrCommand {
			t.Errorf("Check(%.100q) = %d", args, e)
		}
		m.hold(t, args)
	}
}

// TestTA2Numbers: each command with all numbers of words about its bounds.
func TestTA2Numbers(t *testing.T) {
	m := newModel(t)
	for _, s := range chapterSpecs(t) {
		for _, name := range []string{s.Name, strings.ToUpper(s.Name), strings.ToUpper(s.Name[:1]) + s.Name[1:]} {
			check := func(n int, want api.Errno) {
				t.Helper()
				args := words(name, n)
				if e := Check(args); e != want {
					t.Errorf("Check of %s with %d words = %d, want %d", name, n, e, want)
				}
				m.hold(t, args)
			}
			for n := 1; n < s.Least; n++ {
				check(n, api.ErrArity)
			}
			check(s.Least, api.OK)
			if s.Most < 0 {
				for _, n := range []int{s.Least + 1, s.Least + 2, 10, 100, 1000} {
					check(n, api.OK)
				}
				continue
			}
			for n := s.Least; n <= s.Most; n++ {
				check(n, api.OK)
			}
			for _, n := range []int{s.Most + 1, s.Most + 2, 10, 1000} {
				check(n, api.ErrArity)
			}
		}
	}
}

// TestTA2Most: as many words as a request has.
func TestTA2Most(t *testing.T) {
	t.Parallel()
	for _, s := range chapterSpecs(t) {
		want := api.OK
		if s.Most >= 0 {
			want = api.ErrArity
		}
		args := make([]string, api.MaxArgs)
		args[0] = s.Name
		if e := Check(args); e != want {
			t.Errorf("Check of %s with %d words = %d", s.Name, len(args), e)
		}
	}
}

// TestTA4Unknown: names that are none, as a client is told them.
func TestTA4Unknown(t *testing.T) {
	m := newModel(t)
	a := func(n int) string { return strings.Repeat("a", n) }
	for name, want := range map[string]string{
		"": "", "fly": "fly", "FLY": "FLY", "Fly It": "Fly It", " ": " ", "'": "?", "it's": "it?s", "''": "??", "\x00": "?", "\x1f": "?", "~": "~", "\x7f": "?", "\x80": "?", "\xff": "?",
		"a\r\nb": "a??b", "a\tb": "a?b", "ä": "??", "\xe2\x82\xac": "???", "\"`\\": "\"`\\", "get ": "get ", "?": "?", "<'>": "<?>", "&(": "&(", "GET\x00": "GET?",
		a(126): a(126), a(127): a(127), a(128): a(128), a(129): a(128), a(130): a(128), a(1000): a(128), a(api.MaxElement): a(128),
		a(127) + "'": a(127) + "?", a(127) + "\x00": a(127) + "?", a(128) + "'": a(128), a(128) + "\n": a(128), a(126) + "\xc3\xa4b": a(126) + "??", a(127) + "\xc3\xa4": a(127) + "?",
		strings.Repeat("'", 127): strings.Repeat("?", 127), strings.Repeat("\xff", 128): strings.Repeat("?", 128), strings.Repeat("\n", 129): strings.Repeat("?", 128),
		strings.Repeat("B", 129): strings.Repeat("B", 128),
	} {
		for _, args := range [][]string{{name}, {name, "1"}, {name, "get", "it's", "\x00"}} {
			if got := Trouble(args); got != "ERR unknown command '"+want+"'" {
				t.Errorf("Trouble(%.200q) = %q, want %q", args, got, want)
			}
			m.hold(t, args)
		}
	}
}

// TestTA4NoWords: of no words the name is empty.
func TestTA4NoWords(t *testing.T) {
	for _, args := range [][]string{nil, {}, {""}, make([]string, 0, 5)} {
		if got := Trouble(args); got != "ERR unknown command ''" {
			t.Errorf("Trouble(%q) = %q", args, got)
		}
	}
}

// TestTA4Bytes: each byte of a name that is none, as a client is told it.
func TestTA4Bytes(t *testing.T) {
	for b := range 256 {
		c := string([]byte{byte(b)})
		want := c
		if b < 32 || b > 126 || c == "'" {
			want = "?"
		}
		for _, around := range []string{"", "0", strings.Repeat("0", 50)} {
			if got := Trouble([]string{around + c + around}); got != "ERR unknown command '"+around+want+around+"'" {
				t.Errorf("byte %d: %q", b, got)
			}
		}
	}
}

// TestTA4Arity: a wrong number of words, the name in any letters.
func TestTA4Arity(t *testing.T) {
	for _, s := range chapterSpecs(t) {
		want := "ERR wrong number of arguments for '" + s.Name + "' command"
		for _, name := range []string{s.Name, strings.ToUpper(s.Name), s.Name[:1] + strings.ToUpper(s.Name[1:])} {
			if s.Least > 1 {
				if got := Trouble(words(name, s.Least-1)); got != want {
					t.Errorf("%s, too few: %q", name, got)
				}
			}
			if s.Most >= 0 {
				if got := Trouble(words(name, s.Most+1)); got != want {
					t.Errorf("%s, too many: %q", name, got)
				}
			}
			if got := Trouble(words(name, s.Least)); got != "" {
				t.Errorf("%s, as many as it takes: %q", name, got)
			}
			if got := Trouble(words(name, max(s.Most, s.Least))); got != "" {
				t.Errorf("%s, as many as it takes: %q", name, got)
			}
		}
	}
}

// TestTA4Keys: a count that is none is no trouble of Check's.
func TestTA4Keys(t *testing.T) {
	for _, args := range [][]string{{"sintercard", "3", "a", "b"}, {"lmpop", "x", "a", "left"}, {"zunionstore", "d", "", "a"}} {
		if got, e := Trouble(args), Check(args); got != "" || e != api.OK {
			t.Errorf("%q: %q, %d", args, got, e)
		}
	}
}
