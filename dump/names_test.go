package dump

import (
	"fmt"
	"slices"
	"strings"
	"testing"

	"cistern/api"
	"cistern/table"
	"cistern/texts"
)

// mixed writes every other letter great.
func mixed(name string) string {
	b := []byte(strings.ToLower(name))
	for i := 1; i < len(b); i += 2 {
		if 'a' <= b[i] && b[i] <= 'z' {
			b[i] -= 'a' - 'A'
		}
	}
	return string(b)
}

// TestExamples: the chapter's examples.
func TestExamples(t *testing.T) {
	for _, limits := range several {
		for _, compress := range []bool{false, true} {
			sp := newSpace(limits, compress)
			texts.Do(sp, 0, []string{"SET", "a", "12"})
			r := Do(sp, 0, []string{"DUMP", "a"})
			payload := r.Text
			if r.Kind != api.ReplyBulk || payload != summed("\x00\xc0\x0c\x0b\x00") || len(payload) != 13 {
				t.Fatalf("DUMP a: %q", told(r))
			}
			turned := []byte(payload)
			turned[2] ^= 1
			for _, c := range []struct {
				want string
				args []string
			}{
				{"+OK", []string{"RESTORE", "b", "0", payload}},
				{"-BUSYKEY Target key name already exists.", []string{"RESTORE", "b", "0", payload}},
				{"-ERR DUMP payload version or checksum are wrong", []string{"RESTORE", "c", "0", string(turned)}},
			} {
				if got := told(Do(sp, 0, c.args)); got != c.want {
					t.Errorf("%s: %s; want %s", line(c.args), got, c.want)
				}
			}
			if got := told(texts.Do(sp, 0, []string{"GET", "b"})); got != "$12" {
				t.Errorf("GET b: %s", got)
			}
			if got := told(texts.Do(sp, 0, []string{"GET", "c"})); got != "_" {
				t.Errorf("GET c: %s", got)
			}
		}
	}
}

// TestDU2Names: the names of the rows, rising, each once; the list is the caller's. They take the words that the table says.
func TestDU2Names(t *testing.T) {
	want := []string{"dump", "restore"}
	got := Names()
	if !slices.Equal(got, want) {
		t.Fatalf("Names() = %q; want %q", got, want)
	}
	all := got[:cap(got)]
	for i := range all {
		all[i] = "spoilt"
	}
	_ = append(got[:0], "more")
	if again := Names(); !slices.Equal(again, want) {
		t.Errorf("Names() = %q behind work on an earlier answer", again)
	}
	for _, row := range rowLines() {
		var name string
		var least, most int
		fmt.Sscan(row, &name, &least, &most)
		spec, ok := table.Find(name)
		if !ok || spec.Least != least || spec.Most != most || !slices.Contains(want, name) {
			t.Errorf("%s: the table says %+v", row, spec)
		}
	}
}

// TestDU2Letters: names and option words in small, great and mixed letters do the same.
func TestDU2Letters(t *testing.T) {
	payload := payloadOf(0, "\x01a")
	for _, spelt := range []func(string) string{strings.ToLower, strings.ToUpper, mixed} {
		p := begun(t)
		p.keeps("$"+payloadOf(0, "\xc0\x01"), spelt("dump"), "str")
		p.want("+OK", spelt("restore"), "str", "5", payload, spelt("replace"))
		p.holds(0, "str", made(1, middle, "a"), 1005)
		p.want("+OK", spelt("restore"), "new", "2000", payload, spelt("absttl"), spelt("idletime"), "1", spelt("freq"), "2")
		p.holds(0, "new", made(1, middle, "a"), 2000)
	}
}

// TestDU2OtherLetters: letters of the world that are near those of a word are none of it.
func TestDU2OtherLetters(t *testing.T) {
	p := begun(t)
	payload := payloadOf(0, "\x01a")
	for _, word := range []string{"AB\u017fTTL", "\u0130DLETIME", "\u0131dletime", "REPLA\u00c7E", "FR\u00c9Q", "ab\u017fttl"} {
		p.refuses(syntax, "RESTORE", "new", "0", payload, word)
		p.refuses(syntax, "RESTORE", "new", "0", payload, word, "1")
	}
	for _, name := range []string{"RE\u017fTORE", "D\u00dbMP", "re\u017ftore"} {
		p.refuses(unknown, name, "str")
		p.refuses(unknown, name, "str", "0", payload)
	}
}

// TestDU2None: no words, names that are none, and the commands of other layers.
func TestDU2None(t *testing.T) {
	p := begun(t)
	p.refuses(unknown)
	for _, args := range [][]string{nil, {}} {
		if r := Do(p.sp, 0, args); !same(r, api.Reply{Kind: api.ReplyError, Text: unknown}) {
			t.Errorf("no words: %+v", r)
		}
	}
	payload := payloadOf(0, "\x01a")
	names := []string{"", " ", "dum", "dumps", " dump", "dump ", "dump\x00", "\x00dump", "d\xfcmp", "restor", "restored", "restore-asking", "re store", payload, strings.Repeat("dump", 1000)}
	for _, name := range table.All() {
		if !slices.Contains(Names(), name) {
			names = append(names, name, strings.ToUpper(name))
		}
	}
	if len(names) < 250 {
		t.Errorf("%d names", len(names))
	}
	for _, name := range names {
		p.refuses(unknown, name)
		p.refuses(unknown, name, "str")
		p.refuses(unknown, name, "new", "0", payload)
		p.refuses(unknown, name, "str", "0", payload, "REPLACE")
	}
}

// TestDU2Arity: too few and too many words for a row; what is within is not refused so.
func TestDU2Arity(t *testing.T) {
	p := begun(t)
	payload := payloadOf(0, "\x01a")
	p.refuses(unknown, "DUMP")
	p.refuses(unknown, "DUMP", "str", "str")
	p.refuses(unknown, "DUMP", "none", "")
	p.refuses(unknown, "DUMP", "str", "0", payload)
	p.refuses(unknown, "RESTORE")
	p.refuses(unknown, "RESTORE", "new")
	p.refuses(unknown, "RESTORE", "new", "0")
	p.refuses(unknown, "RESTORE", "new", "x")
	p.refuses(unknown, "RESTORE", "str", "REPLACE")
	p.keeps("_", "DUMP", "none")
	p.want("+OK", "RESTORE", "new", "0", payload)
	many := append([]string{"RESTORE", "str", "0", payload}, slices.Repeat([]string{"REPLACE", "IDLETIME", "5", "FREQ", "7"}, 100000)...)
	p.want("+OK", many...)
	p.holds(0, "str", made(1, middle, "a"), -1)
	p.refuses(syntax, append(many, "FREQ")...)
	p.refuses(badFreq, append(many, "FREQ", "256")...)
	if got := p.ask(append([]string{"DUMP"}, many...)...); got != "-"+unknown {
		t.Errorf("DUMP of many words: %s", got)
	}
}
