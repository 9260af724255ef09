package hashes

import (
	"fmt"
	"strings"
	"testing"

	"cistern/api"
)

// withFields is a trial whose key h has these fields; large: in the large form, whatever the thresholds are.
func withFields(t testing.TB, limits api.Thresholds, large bool, words ...string) *trial {
	t.Helper()
	p := newTrial(t, limits)
	if large {
		p.ask("HSET", "h", "passing", strings.Repeat("long", 1025))
	}
	p.ask(append([]string{"HSET", "h"}, words...)...)
	if large {
		p.want("HDEL h passing", ":1")
		p.encoding("h", "hashtable")
	}
	return p
}

// TestHA1Ask: HGET, HMGET, HEXISTS, HSTRLEN of names that are there and that are not, of an empty name and an empty value.
func TestHA1Ask(t *testing.T) {
	for _, limits := range allLimits() {
		for _, large := range []bool{false, true} {
			p := withFields(t, limits, large, "a", "1", "", "of no name", "void", "", "10", "-7", "9", "nine....9", "b\x00", "\xff\x00")
			for _, c := range []struct{ name, value string }{{"a", "1"}, {"", "of no name"}, {"void", ""}, {"10", "-7"}, {"9", "nine....9"}, {"b\x00", "\xff\x00"}} {
				p.keeps("$"+c.value, "HGET", "h", c.name)
				p.keeps(":1", "HEXISTS", "h", c.name)
				p.keeps(fmt.Sprint(":", len(c.value)), "HSTRLEN", "h", c.name)
				p.keeps("[$"+c.value+" _ $"+c.value+"]", "HMGET", "h", c.name, "none", c.name)
			}
			for _, name := range []string{"none", "A", "010", "+9", "b", "b\x00\x00", "1", "-7", "of no name", " ", "passing"} {
				p.keeps("_", "HGET", "h", name)
				p.keeps(":0", "HEXISTS", "h", name)
				p.keeps(":0", "HSTRLEN", "h", name)
				p.keeps("[_ $1 _]", "HMGET", "h", name, "a", name)
			}
			p.keeps("[_ _]", "HMGET", "none", "a", "")
			p.keeps(":6", "HLEN", "h")
		}
	}
}

// TestHA1AskMany: HMGET of more names than are sought one by one, in both encodings.
func TestHA1AskMany(t *testing.T) {
	for _, limits := range allLimits() {
		for _, field := range []string{"", "m", "-"} {
			for _, n := range []int{1, few - 1, few, few + 1, 100, 1000} {
				p := newTrial(t, limits)
				p.ask(numbered("HSET", "h", field, 1, 50)...)
				words := namesOnly("HMGET", "h", field, 1, n)
				for i := 3; i < len(words); i += 3 {
					words[i] = pick(new(mix(i)), "x", "01", "", "7", "m7")
				}
				p.ask(words...)
				words[1] = "none"
				p.ask(words...)
			}
		}
	}
}

// TestHA1All: HLEN, HKEYS, HVALS and HGETALL: names rising as bytes, numbers too, in both encodings; the kinds of their replies.
func TestHA1All(t *testing.T) {
	for _, limits := range allLimits() {
		for _, c := range []struct{ words, rising string }{
			{"3 c 1 a 2 b 10 d", "1 a 10 d 2 b 3 c"}, {"z 1 y 2 aa 3 a 4 ab 5 B 6", "B 6 a 4 aa 3 ab 5 y 2 z 1"}, {"-5 x -40 x 7 x 0 x", "-40 x -5 x 0 x 7 x"}, {"one value", "one value"}, {"b 1 a nine....9", "a nine....9 b 1"},
		} {
			for _, large := range []bool{false, true} {
				p := withFields(t, limits, large, strings.Fields(c.words)...)
				list := strings.Fields(c.rising)
				var names, values []string
				for i := 0; i < len(list); i += 2 {
					names, values = append(names, list[i]), append(values, list[i+1])
				}
				p.keeps(fmt.Sprint(":", len(names)), "HLEN", "h")
				p.keeps("[$"+strings.Join(names, " $")+"]", "HKEYS", "h")
				p.keeps("[$"+strings.Join(values, " $")+"]", "HVALS", "h")
				p.keeps("{$"+strings.Join(list, " $")+"}", "HGETALL", "h")
			}
		}
		p := newTrial(t, limits)
		p.want("HSET h 3 c 1 a 2 b 10 d", ":4")
		for name, kind := range map[string]int{"HKEYS": api.ReplyArray, "HVALS": api.ReplyArray, "HGETALL": api.ReplyMap} {
			for key, n := range map[string]int{"h": 4, "none": 0} {
				r := Do(p.sp.Clone(), 0, []string{name, key})
				if kind == api.ReplyMap {
					n *= 2
				}
				if r.Kind != kind || len(r.List) != n || r.N != 0 || r.Text != "" {
					t.Errorf("%s %s: %+v", name, key, r)
				}
			}
		}
	}
}
