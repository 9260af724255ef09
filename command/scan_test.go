package command

import (
	"errors"
	"math"
	"strings"
	"testing"

	"cistern/api"
)

// TestReadScan: cursors, options in any order and letters, the last one of each.
func TestReadScan(t *testing.T) {
	const all = 10 // where no count is given
	for _, c := range []struct {
		line          string
		cursor, count int
		told, untold  string
	}{
		{"0", 0, all, "a", ""}, {"17", 17, all, "", ""}, {"9223372036854775807", math.MaxInt, all, "a", ""},
		{"0 COUNT 1", 0, 1, "a", ""}, {"0 count 9223372036854775807", 0, math.MaxInt, "a", ""}, {"3 Count 5 COUNT 7", 3, 7, "a", ""},
		{"0 MATCH a", 0, all, "a", "A"}, {"0 match a*", 0, all, "ab", "b"}, {"0 MATCH a MATCH b", 0, all, "b", "a"}, {"0 MATCH *", 0, all, "a", ""}, {"0 MATCH ** MATCH ?", 0, all, "a", "aa"},
		{"0 MATCH a COUNT 3", 0, 3, "a", "b"}, {"0 COUNT 3 MATCH a", 0, 3, "a", "b"}, {"0 MATCH MATCH", 0, all, "MATCH", "a"}, {"0 MATCH COUNT COUNT 4", 0, 4, "COUNT", "a"},
	} {
		words := strings.Fields(c.line)
		s, err := ReadScan(words[0], words[1:]...)
		if err != nil || s.Cursor != c.cursor || s.Count != c.count {
			t.Errorf("%s: %+v, %v", c.line, s, err)
		}
		if !matches(s.Pattern, c.told) || c.untold != "" && matches(s.Pattern, c.untold) {
			t.Errorf("%s: %q is told: %v, %q: %v", c.line, c.told, matches(s.Pattern, c.told), c.untold, matches(s.Pattern, c.untold))
		}
	}
	s, err := ReadScan("0", "MATCH", "")
	if err != nil || !matches(s.Pattern, "") || matches(s.Pattern, "a") {
		t.Errorf("the empty pattern: %+v, %v", s, err)
	}
	most := strings.Repeat("?", api.MaxPattern)
	if s, err = ReadScan("0", "MATCH", most); err != nil || !matches(s.Pattern, most) || matches(s.Pattern, most[1:]) {
		t.Errorf("a pattern of as many bytes as may be: %v", err)
	}
}

func matches(p Pattern, text string) bool { return len(p.Matching([]string{text})) == 1 }

// TestPattern: of a list the texts that match are left, in their order; a pattern may have so many bytes and no more.
func TestPattern(t *testing.T) {
	for pattern, want := range map[string]string{"*": "b ab a aa B", "a*": "ab a aa", "?": "b a B", "[^a]": "b B", "a": "a", "**": "b ab a aa B", "": "", "none": ""} {
		p, err := ReadPattern(pattern)
		if got := strings.Join(p.Matching(strings.Fields("b ab a aa B")), " "); got != want || err != nil {
			t.Errorf("%q leaves %q, %v; want %q", pattern, got, err, want)
		}
	}
	most := strings.Repeat("a", api.MaxPattern)
	if p, err := ReadPattern(most); p != Pattern(most) || err != nil {
		t.Errorf("a pattern of as many bytes as may be: %d bytes, %v", len(p), err)
	}
	if p, err := ReadPattern(most + "a"); p != "" || told(err) != "ERR syntax error" {
		t.Errorf("a pattern of a byte more: %d bytes, %v", len(p), err)
	}
}

// TestReadScanWith: options of a scan's own, anywhere among the others, and as the word of another one.
func TestReadScanWith(t *testing.T) {
	for _, c := range []struct {
		line  string
		count int
		told  string
		flag  bool
		word  string
		err   string
	}{
		{"0", 10, "a", false, "", ""}, {"0 flag", 10, "a", true, "", ""}, {"0 FLAG COUNT 3", 3, "a", true, "", ""}, {"0 COUNT 3 Flag", 3, "a", true, "", ""}, {"0 COUNT 3 flag MATCH b*", 3, "bb", true, "", ""}, {"0 MATCH flag", 10, "flag", false, "", ""}, {"0 MATCH flag flag", 10, "flag", true, "", ""}, {"0 flag COUNT 1 flag MATCH a", 1, "a", true, "", ""},
		{"0 WORD flag", 10, "a", false, "flag", ""}, {"0 word a COUNT 2 Word b", 2, "a", false, "b", ""}, {"0 flag word MATCH match x", 10, "x", true, "MATCH", ""},
		{"0 COUNT flag", 0, "", false, "", "ERR syntax error"}, {"0 flags", 0, "", false, "", "ERR syntax error"}, {"0 flag 1", 0, "", true, "", "ERR syntax error"}, {"0 MATCH", 0, "", false, "", "ERR syntax error"}, {"0 word", 0, "", false, "", "ERR syntax error"}, {"0 word no flag", 0, "", false, "", "ERR no"}, {"x flag", 0, "", false, "", "ERR invalid cursor"},
	} {
		flag, kept := false, ""
		own := Options{"flag": Flag(&flag), "word": TakeWord(func(word string) error {
			if word == "no" {
				return errors.New("ERR no")
			}
			kept = word
			return nil
		})}
		words := strings.Fields(c.line)
		s, err := ReadScanWith(own, words[0], words[1:]...)
		if s.Count != c.count || flag != c.flag || kept != c.word || told(err) != c.err || err == nil && !matches(s.Pattern, c.told) {
			t.Errorf("%s: %+v, %v, %q, %v", c.line, s, flag, kept, err)
		}
		if len(own) != 2 {
			t.Errorf("%s: the scan's own options have become %d", c.line, len(own))
		}
	}
}

// TestReadScanErrors: cursors and options that can't be.
func TestReadScanErrors(t *testing.T) {
	for _, word := range []string{"", "x", "-1", "01", "-0", "+1", "1.0", "9223372036854775808", "-9223372036854775808"} {
		for _, options := range [][]string{nil, {"COUNT", "0"}, {"BOGUS"}} {
			if s, err := ReadScan(word, options...); s != (Scan{}) || told(err) != "ERR invalid cursor" {
				t.Errorf("ReadScan(%q, %q) = %+v, %v", word, options, s, err)
			}
		}
	}
	over := strings.Repeat("?", api.MaxPattern+1)
	for _, options := range [][]string{
		{"MATCH"}, {"COUNT"}, {"BOGUS"}, {""}, {"BOGUS", "1"}, {"COUNT", "0"}, {"COUNT", "-1"}, {"COUNT", "x"}, {"COUNT", "01"}, {"COUNT", "9223372036854775808"}, {"MATCH", over},
		{"COUNT", "0", "COUNT", "1"}, {"COUNT", "1", "COUNT", "0"}, {"MATCH", over, "MATCH", "a"}, {"MATCH", "a", "MATCH", over}, {"MATCH", "a", "COUNT"}, {"MATCH", "a", "b"}, {"COUNT", "1", "BOGUS", "1"},
	} {
		if s, err := ReadScan("0", options...); s != (Scan{}) || told(err) != "ERR syntax error" {
			t.Errorf("ReadScan(0, %.40q) = %+v, %v", options, s, err)
		}
	}
}

// TestScanned: the next cursor's digits and what is told.
func TestScanned(t *testing.T) {
	r := Scanned(12, "a", "")
	if r.Kind != api.ReplyArray || len(r.List) != 2 || r.List[0].Kind != api.ReplyBulk || r.List[0].Text != "12" {
		t.Fatalf("Scanned = %+v", r)
	}
	if l := r.List[1]; l.Kind != api.ReplyArray || len(l.List) != 2 || l.List[0].Text != "a" || l.List[1].Text != "" || l.List[1].Kind != api.ReplyBulk {
		t.Errorf("what is told: %+v", l)
	}
	if r := Scanned(0); len(r.List) != 2 || r.List[0].Text != "0" || r.List[1].Kind != api.ReplyArray || len(r.List[1].List) != 0 {
		t.Errorf("Scanned of nothing = %+v", r)
	}
}
