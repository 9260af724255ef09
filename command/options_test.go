package command

import (
	"errors"
	"fmt"
	"slices"
	"strings"
	"testing"
)

// said is what some options say.
type said struct {
	on    bool
	side  string
	words []string
	taken string
}

func (s *said) options() Options {
	return Options{
		"on":    Flag(&s.on),
		"left":  Choice(&s.side, "left"),
		"right": Choice(&s.side, "right"),
		"two":   KeepWords(2, &s.words),
		"take": TakeWord(func(word string) error {
			if word == "no" {
				return errors.New("ERR no")
			}
			s.taken += word
			return nil
		}),
	}
}

func (s said) String() string { return fmt.Sprint(s.on, " ", s.side, s.words, s.taken) }

// TestOptions: options of each sort, in any order and letters, with what they say and where they end.
func TestOptions(t *testing.T) {
	for _, c := range []struct{ line, want, left, err string }{
		{"", "false []", "", ""}, {"on", "true []", "", ""}, {"ON oN On", "true []", "", ""}, {"left", "false left[]", "", ""}, {"left right", "false right[]", "", ""}, {"RIGHT on left", "true left[]", "", ""},
		{"two a b", "false [a b]", "", ""}, {"two a b TWO c d", "false [c d]", "", ""}, {"two on on on", "true [on on]", "", ""}, {"take a", "false []a", "", ""}, {"take take Take b on", "true []takeb", "", ""},
		{"on a left", "true []", "a left", ""}, {"one", "false []", "one", ""}, {"on two a b c on", "true [a b]", "c on", ""},
		{"two", "false []", "", "ERR syntax error"}, {"two a", "false []", "", "ERR syntax error"}, {"on take", "true []", "", "ERR syntax error"}, {"on take no left", "true []", "", "ERR no"}, {"take no two", "false []", "", "ERR no"}, {"two a b two c", "false [a b]", "", "ERR syntax error"},
	} {
		var s said
		words := strings.Fields(c.line)
		left, err := s.options().Lead(words)
		if s.String() != c.want || strings.Join(left, " ") != c.left || told(err) != c.err {
			t.Errorf("%s: %v, %q, %v", c.line, s, left, err)
		}
		want := c.err
		if c.left != "" {
			want = "ERR syntax error"
		}
		var again said
		if err := again.options().Read(words); told(err) != want || again.String() != c.want {
			t.Errorf("%s: %v, %v; want %q", c.line, again, err, want)
		}
		if !slices.Equal(words, strings.Fields(c.line)) {
			t.Errorf("%s has become %q", c.line, words)
		}
	}
}

// TestOnly: of some options those that are named.
func TestOnly(t *testing.T) {
	var s said
	some := s.options().Only("on", "take")
	if err := some.Read(strings.Fields("take a on")); err != nil || !s.on || s.taken != "a" {
		t.Errorf("the options that are left: %v, %v", s, err)
	}
	for _, word := range []string{"left", "right", "two a b"} {
		if err := some.Read(strings.Fields(word)); told(err) != "ERR syntax error" {
			t.Errorf("%s: %v", word, err)
		}
	}
	if err := s.options().Only().Read([]string{"on"}); told(err) != "ERR syntax error" {
		t.Errorf("of none: %v", err)
	}
}
