package table

import (
	"slices"
	"strconv"
	"strings"
	"testing"

	"cistern/api"
)

// chapter is the table of chapter 13, as it stands there.
const chapter = `
| append | 3 | 3 | w | 1 | 1 | 1 | 0 |
| bgsave | 1 | 1 | a | 0 | 0 | 0 | 0 |
| bitcount | 2 | 5 | r | 1 | 1 | 1 | 0 |
| bitop | 4 | -1 | w | 2 | -1 | 1 | 0 |
| bitpos | 3 | 6 | r | 1 | 1 | 1 | 0 |
| client | 2 | -1 | s | 0 | 0 | 0 | 0 |
| command | 1 | 3 | s | 0 | 0 | 0 | 0 |
| config | 2 | -1 | a | 0 | 0 | 0 | 0 |
| copy | 3 | 6 | w | 1 | 2 | 1 | 0 |
| dbsize | 1 | 1 | r | 0 | 0 | 0 | 0 |
| decr | 2 | 2 | w | 1 | 1 | 1 | 0 |
| decrby | 3 | 3 | w | 1 | 1 | 1 | 0 |
| del | 2 | -1 | w | 1 | -1 | 1 | 0 |
| discard | 1 | 1 | s | 0 | 0 | 0 | 0 |
| dump | 2 | 2 | r | 1 | 1 | 1 | 0 |
| echo | 2 | 2 | s | 0 | 0 | 0 | 0 |
| exec | 1 | 1 | s | 0 | 0 | 0 | 0 |
| exists | 2 | -1 | r | 1 | -1 | 1 | 0 |
| expire | 3 | 4 | w | 1 | 1 | 1 | 0 |
| expireat | 3 | 4 | w | 1 | 1 | 1 | 0 |
| expiretime | 2 | 2 | r | 1 | 1 | 1 | 0 |
| flushall | 1 | 2 | w | 0 | 0 | 0 | 0 |
| flushdb | 1 | 2 | w | 0 | 0 | 0 | 0 |
| get | 2 | 2 | r | 1 | 1 | 1 | 0 |
| getbit | 3 | 3 | r | 1 | 1 | 1 | 0 |
| getdel | 2 | 2 | w | 1 | 1 | 1 | 0 |
| getex | 2 | -1 | w | 1 | 1 | 1 | 0 |
| getrange | 4 | 4 | r | 1 | 1 | 1 | 0 |
| getset | 3 | 3 | w | 1 | 1 | 1 | 0 |
| hdel | 3 | -1 | w | 1 | 1 | 1 | 0 |
| hello | 1 | 4 | s | 0 | 0 | 0 | 0 |
| hexists | 3 | 3 | r | 1 | 1 | 1 | 0 |
| hget | 3 | 3 | r | 1 | 1 | 1 | 0 |
| hgetall | 2 | 2 | r | 1 | 1 | 1 | 0 |
| hincrby | 4 | 4 | w | 1 | 1 | 1 | 0 |
| hkeys | 2 | 2 | r | 1 | 1 | 1 | 0 |
| hlen | 2 | 2 | r | 1 | 1 | 1 | 0 |
| hmget | 3 | -1 | r | 1 | 1 | 1 | 0 |
| hmset | 4 | -1 | w | 1 | 1 | 1 | 0 |
| hrandfield | 2 | 4 | r | 1 | 1 | 1 | 0 |
| hscan | 3 | 8 | r | 1 | 1 | 1 | 0 |
| hset | 4 | -1 | w | 1 | 1 | 1 | 0 |
| hsetnx | 4 | 4 | w | 1 | 1 | 1 | 0 |
| hstrlen | 3 | 3 | r | 1 | 1 | 1 | 0 |
| hvals | 2 | 2 | r | 1 | 1 | 1 | 0 |
| incr | 2 | 2 | w | 1 | 1 | 1 | 0 |
| incrby | 3 | 3 | w | 1 | 1 | 1 | 0 |
| info | 1 | 2 | s | 0 | 0 | 0 | 0 |
| keys | 2 | 2 | r | 0 | 0 | 0 | 0 |
| lastsave | 1 | 1 | s | 0 | 0 | 0 | 0 |
| lindex | 3 | 3 | r | 1 | 1 | 1 | 0 |
| linsert | 5 | 5 | w | 1 | 1 | 1 | 0 |
| llen | 2 | 2 | r | 1 | 1 | 1 | 0 |
| lmove | 5 | 5 | w | 1 | 2 | 1 | 0 |
| lmpop | 4 | -1 | w | 0 | 0 | 0 | 1 |
| lpop | 2 | 3 | w | 1 | 1 | 1 | 0 |
| lpos | 3 | -1 | r | 1 | 1 | 1 | 0 |
| lpush | 3 | -1 | w | 1 | 1 | 1 | 0 |
| lpushx | 3 | -1 | w | 1 | 1 | 1 | 0 |
| lrange | 4 | 4 | r | 1 | 1 | 1 | 0 |
| lrem | 4 | 4 | w | 1 | 1 | 1 | 0 |
| lset | 4 | 4 | w | 1 | 1 | 1 | 0 |
| ltrim | 4 | 4 | w | 1 | 1 | 1 | 0 |
| memory | 2 | 3 | s | 0 | 0 | 0 | 0 |
| mget | 2 | -1 | r | 1 | -1 | 1 | 0 |
| move | 3 | 3 | w | 1 | 1 | 1 | 0 |
| mset | 3 | -1 | w | 1 | -1 | 2 | 0 |
| msetnx | 3 | -1 | w | 1 | -1 | 2 | 0 |
| multi | 1 | 1 | s | 0 | 0 | 0 | 0 |
| object | 3 | 3 | r | 2 | 2 | 1 | 0 |
| persist | 2 | 2 | w | 1 | 1 | 1 | 0 |
| pexpire | 3 | 4 | w | 1 | 1 | 1 | 0 |
| pexpireat | 3 | 4 | w | 1 | 1 | 1 | 0 |
| pexpiretime | 2 | 2 | r | 1 | 1 | 1 | 0 |
| ping | 1 | 2 | s | 0 | 0 | 0 | 0 |
| psetex | 4 | 4 | w | 1 | 1 | 1 | 0 |
| psubscribe | 2 | -1 | S | 0 | 0 | 0 | 0 |
| pttl | 2 | 2 | r | 1 | 1 | 1 | 0 |
| publish | 3 | 3 | s | 0 | 0 | 0 | 0 |
| pubsub | 2 | -1 | s | 0 | 0 | 0 | 0 |
| punsubscribe | 1 | -1 | S | 0 | 0 | 0 | 0 |
| quit | 1 | 1 | s | 0 | 0 | 0 | 0 |
| randomkey | 1 | 1 | r | 0 | 0 | 0 | 0 |
| rename | 3 | 3 | w | 1 | 2 | 1 | 0 |
| renamenx | 3 | 3 | w | 1 | 2 | 1 | 0 |
| reset | 1 | 1 | s | 0 | 0 | 0 | 0 |
| restore | 4 | -1 | w | 1 | 1 | 1 | 0 |
| rpop | 2 | 3 | w | 1 | 1 | 1 | 0 |
| rpoplpush | 3 | 3 | w | 1 | 2 | 1 | 0 |
| rpush | 3 | -1 | w | 1 | 1 | 1 | 0 |
| rpushx | 3 | -1 | w | 1 | 1 | 1 | 0 |
| sadd | 3 | -1 | w | 1 | 1 | 1 | 0 |
| save | 1 | 1 | a | 0 | 0 | 0 | 0 |
| scan | 2 | 8 | r | 0 | 0 | 0 | 0 |
| scard | 2 | 2 | r | 1 | 1 | 1 | 0 |
| sdiff | 2 | -1 | r | 1 | -1 | 1 | 0 |
| sdiffstore | 3 | -1 | w | 1 | -1 | 1 | 0 |
| select | 2 | 2 | s | 0 | 0 | 0 | 0 |
| set | 3 | -1 | w | 1 | 1 | 1 | 0 |
| setbit | 4 | 4 | w | 1 | 1 | 1 | 0 |
| setex | 4 | 4 | w | 1 | 1 | 1 | 0 |
| setnx | 3 | 3 | w | 1 | 1 | 1 | 0 |
| setrange | 4 | 4 | w | 1 | 1 | 1 | 0 |
| shutdown | 1 | 2 | a | 0 | 0 | 0 | 0 |
| sinter | 2 | -1 | r | 1 | -1 | 1 | 0 |
| sintercard | 3 | -1 | r | 0 | 0 | 0 | 1 |
| sinterstore | 3 | -1 | w | 1 | -1 | 1 | 0 |
| sismember | 3 | 3 | r | 1 | 1 | 1 | 0 |
| slowlog | 2 | 3 | a | 0 | 0 | 0 | 0 |
| smembers | 2 | 2 | r | 1 | 1 | 1 | 0 |
| smismember | 3 | -1 | r | 1 | 1 | 1 | 0 |
| smove | 4 | 4 | w | 1 | 2 | 1 | 0 |
| sort | 2 | -1 | w | 1 | 1 | 1 | 0 |
| spop | 2 | 3 | w | 1 | 1 | 1 | 0 |
| srandmember | 2 | 3 | r | 1 | 1 | 1 | 0 |
| srem | 3 | -1 | w | 1 | 1 | 1 | 0 |
| sscan | 3 | 7 | r | 1 | 1 | 1 | 0 |
| strlen | 2 | 2 | r | 1 | 1 | 1 | 0 |
| subscribe | 2 | -1 | S | 0 | 0 | 0 | 0 |
| sunion | 2 | -1 | r | 1 | -1 | 1 | 0 |
| sunionstore | 3 | -1 | w | 1 | -1 | 1 | 0 |
| swapdb | 3 | 3 | w | 0 | 0 | 0 | 0 |
| time | 1 | 1 | s | 0 | 0 | 0 | 0 |
| touch | 2 | -1 | r | 1 | -1 | 1 | 0 |
| ttl | 2 | 2 | r | 1 | 1 | 1 | 0 |
| type | 2 | 2 | r | 1 | 1 | 1 | 0 |
| unlink | 2 | -1 | w | 1 | -1 | 1 | 0 |
| unsubscribe | 1 | -1 | S | 0 | 0 | 0 | 0 |
| unwatch | 1 | 1 | s | 0 | 0 | 0 | 0 |
| watch | 2 | -1 | s | 1 | -1 | 1 | 0 |
| zadd | 4 | -1 | w | 1 | 1 | 1 | 0 |
| zcard | 2 | 2 | r | 1 | 1 | 1 | 0 |
| zcount | 4 | 4 | r | 1 | 1 | 1 | 0 |
| zdiff | 3 | -1 | r | 0 | 0 | 0 | 1 |
| zdiffstore | 4 | -1 | w | 1 | 1 | 1 | 2 |
| zincrby | 4 | 4 | w | 1 | 1 | 1 | 0 |
| zinter | 3 | -1 | r | 0 | 0 | 0 | 1 |
| zintercard | 3 | -1 | r | 0 | 0 | 0 | 1 |
| zinterstore | 4 | -1 | w | 1 | 1 | 1 | 2 |
| zlexcount | 4 | 4 | r | 1 | 1 | 1 | 0 |
| zmscore | 3 | -1 | r | 1 | 1 | 1 | 0 |
| zpopmax | 2 | 3 | w | 1 | 1 | 1 | 0 |
| zpopmin | 2 | 3 | w | 1 | 1 | 1 | 0 |
| zrandmember | 2 | 4 | r | 1 | 1 | 1 | 0 |
| zrange | 4 | -1 | r | 1 | 1 | 1 | 0 |
| zrangebylex | 4 | 7 | r | 1 | 1 | 1 | 0 |
| zrangebyscore | 4 | -1 | r | 1 | 1 | 1 | 0 |
| zrangestore | 5 | -1 | w | 1 | 2 | 1 | 0 |
| zrank | 3 | 4 | r | 1 | 1 | 1 | 0 |
| zrem | 3 | -1 | w | 1 | 1 | 1 | 0 |
| zremrangebylex | 4 | 4 | w | 1 | 1 | 1 | 0 |
| zremrangebyrank | 4 | 4 | w | 1 | 1 | 1 | 0 |
| zremrangebyscore | 4 | 4 | w | 1 | 1 | 1 | 0 |
| zrevrange | 4 | 5 | r | 1 | 1 | 1 | 0 |
| zrevrangebylex | 4 | 7 | r | 1 | 1 | 1 | 0 |
| zrevrangebyscore | 4 | -1 | r | 1 | 1 | 1 | 0 |
| zrevrank | 3 | 4 | r | 1 | 1 | 1 | 0 |
| zscan | 3 | 7 | r | 1 | 1 | 1 | 0 |
| zscore | 3 | 3 | r | 1 | 1 | 1 | 0 |
| zunion | 3 | -1 | r | 0 | 0 | 0 | 1 |
| zunionstore | 4 | -1 | w | 1 | 1 | 1 | 2 |
`

// chapterCount is how many rows the chapter has.
const chapterCount = 161

// chapterSpecs reads the chapter's table.
func chapterSpecs(t *testing.T) []api.Spec {
	t.Helper()
	number := func(s string) int {
		n, err := strconv.Atoi(s)
		if err != nil {
			t.Fatal(err)
		}
		return n
	}
	var specs []api.Spec
	for _, line := range strings.Split(strings.TrimSpace(chapter), "\n") {
		c := strings.Split(strings.Trim(line, "| "), " | ")
		if len(c) != 8 {
			t.Fatalf("row %q", line)
		}
		specs = append(specs, api.Spec{
			Name: c[0], Least: number(c[1]), Most: number(c[2]),
			Write: c[3] == "w", Admin: c[3] == "a", Sub: c[3] == "S",
			First: number(c[4]), Last: number(c[5]), Step: number(c[6]), Count: number(c[7]),
		})
	}
	if len(specs) != chapterCount {
		t.Fatalf("%d rows", len(specs))
	}
	return specs
}

// model answers by the chapter's words, from a map of the chapter's rows.
type model map[string]api.Spec

func newModel(t *testing.T) model {
	m := model{}
	for _, s := range chapterSpecs(t) {
		m[s.Name] = s
	}
	return m
}

// find looks a name up; letters are turned small by a table of pairs.
func (m model) find(name string) (api.Spec, bool) {
	s, ok := m[modelLower(name)]
	return s, ok
}

func modelLower(s string) string {
	const great, small = "ABCDEFGHIJKLMNOPQRSTUVWXYZ", "abcdefghijklmnopqrstuvwxyz"
	out := make([]byte, 0, len(s))
	for i := 0; i < len(s); i++ {
		if at := strings.IndexByte(great, s[i]); at >= 0 {
			out = append(out, small[at])
		} else {
			out = append(out, s[i])
		}
	}
	return string(out)
}

func (m model) check(args []string) api.Errno {
	if len(args) == 0 {
		return api.ErrCommand
	}
	s, ok := m.find(args[0])
	switch {
	case !ok:
		return api.ErrCommand
	case len(args) < s.Least:
		return api.ErrArity
	case s.Most < 0:
		return api.OK
	case len(args) > s.Most:
		return api.ErrArity
	}
	return api.OK
}

func (m model) keys(args []string) ([]string, api.Errno) {
	if e := m.check(args); e != api.OK {
		return nil, e
	}
	s, _ := m.find(args[0])
	return modelKeys(s, args)
}

// modelKeys asks of each word whether it is a key.
func modelKeys(s api.Spec, args []string) ([]string, api.Errno) {
	last := s.Last
	if last < 0 {
		last = len(args) + s.Last
	}
	var keys []string
	for i := range args {
		if s.First > 0 && i >= s.First && i <= last && (i-s.First)%s.Step == 0 {
			keys = append(keys, args[i])
		}
	}
	if s.Count == 0 {
		return keys, api.OK
	}
	n, err := strconv.Atoi(args[s.Count])
	if err != nil || strconv.Itoa(n) != args[s.Count] || n < 1 || n > len(args)-s.Count-1 {
		return nil, api.ErrNumber
	}
	for i := range n {
		keys = append(keys, args[s.Count+1+i])
	}
	return keys, api.OK
}

func (m model) trouble(args []string) string {
	switch m.check(args) {
	case api.ErrArity:
		return "ERR wrong number of arguments for '" + modelLower(args[0]) + "' command"
	case api.ErrCommand:
		name := ""
		for i := 0; len(args) > 0 && i < 128 && i < len(args[0]); i++ {
			if c := args[0][i]; c < 32 || c > 126 || c == 39 {
				name += "?"
			} else {
				name += string(rune(c))
			}
		}
		return "ERR unknown command '" + name + "'"
	}
	return ""
}

// hold holds all that can be asked of words against the model, and that they stay as they are.
func (m model) hold(t *testing.T, args []string) {
	t.Helper()
	before := slices.Clone(args)
	if got, want := Check(args), m.check(args); got != want {
		t.Errorf("Check(%.200q) = %d, want %d", args, got, want)
	}
	want, wantErr := m.keys(args)
	if got, e := Keys(args); e != wantErr || !slices.Equal(got, want) {
		t.Errorf("Keys(%.200q) = %.200q, %d; want %.200q, %d", args, got, e, want, wantErr)
	}
	if got, want := Trouble(args), m.trouble(args); got != want {
		t.Errorf("Trouble(%.200q) = %q, want %q", args, got, want)
	}
	if !slices.Equal(args, before) {
		t.Errorf("%.200q has become %.200q", before, args)
	}
}

// words gives a request of so many words: a name and texts that differ, numbers among them.
func words(name string, n int) []string {
	args := make([]string, n)
	for i := range args {
		args[i] = strconv.Itoa(i)
	}
	if n > 0 {
		args[0] = name
	}
	return args
}

// mixer tells numbers that look like chance and are the same in each run.
type mixer struct{ state uint64 }

func mix(seed uint64) *mixer { return &mixer{seed*2654435761 + 88172645463325252} }

func (m *mixer) below(n int) int {
	m.state ^= m.state << 13
	m.state ^= m.state >> 7
	m.state ^= m.state << 17
	return int(m.state>>11) % n
}
