package session

import (
	"fmt"
	"slices"
	"strconv"
	"strings"

	"cistern/api"
	"cistern/keyspace"
	"cistern/resp"
	"cistern/table"
)

// model is a session by the chapter's words, one by one.
type model struct {
	id, db, proto, listens int
	name                   string
	parser                 *resp.Parser
	queues, broken         bool
	queue                  [][]string
	marks                  map[string]int // of the keys that it watches
	waiting                string
	quit, closed           bool
}

func newModel(id int) *model {
	return &model{id: id, proto: 2, parser: resp.New(), marks: map[string]int{}}
}

func (m *model) Feed(chunk string) []api.Request {
	if m.closed {
		return nil
	}
	return m.parser.Feed(chunk)
}

func (m *model) Listen(n int) {
	m.listens = n
	if n < 0 {
		m.listens = 0
	}
}

func (m *model) Listens() int { return m.listens }

func (m *model) Close() { m.closed = true }

func (m *model) SetName(name string) api.Errno {
	if len(name) > 64 {
		return api.ErrArg
	}
	for _, b := range []byte(name) {
		if b < 33 || b > 126 {
			return api.ErrArg
		}
	}
	m.name = name
	return api.OK
}

func (m *model) Tell(r api.Reply) api.Errno {
	if m.closed {
		return api.ErrSession
	}
	text, err := resp.Encode(r, m.proto)
	if err != api.OK {
		return err
	}
	if len(m.waiting)+len(text) > 67108864 {
		m.closed = true
		return api.ErrFull
	}
	m.waiting += text
	if m.quit {
		m.closed = true
	}
	return api.OK
}

func (m *model) Drain(n int) string {
	if n < 1 {
		return ""
	}
	if n > len(m.waiting) {
		n = len(m.waiting)
	}
	text := m.waiting[:n]
	m.waiting = m.waiting[n:]
	return text
}

// seen is all that can be seen of it.
func (m *model) seen() string {
	queued := -1
	if m.queues {
		queued = len(m.queue)
	}
	return state(m.id, m.db, m.proto, m.name, queued, len(m.marks), m.listens, len(m.waiting), m.closed)
}

func state(id, db, proto int, name string, queued, watched, listens, waits int, closed bool) string {
	return fmt.Sprintf("id %d, db %d, proto %d, name %q, queued %d, watched %d, listens %d, waits %d, closed %v", id, db, proto, name, queued, watched, listens, waits, closed)
}

// The names of the chapter's rules.
var (
	whileListening = []string{"subscribe", "psubscribe", "unsubscribe", "punsubscribe", "ping", "quit", "reset"}
	notQueued      = []string{"multi", "exec", "discard", "watch", "quit", "reset"}
	ownNames       = []string{"multi", "discard", "exec", "watch", "unwatch", "select", "hello", "reset", "quit", "ping", "echo"}
)

func (m *model) Do(sp *keyspace.Space, args []string, do func(db int, args []string) api.Reply) api.Reply {
	if m.closed || m.quit {
		return api.Reply{Kind: api.ReplyNone}
	}
	if table.Check(args) != api.OK {
		if m.queues {
			m.broken = true
		}
		return resp.Error(table.Trouble(args))
	}
	name := strings.ToLower(args[0])
	if m.proto == 2 && m.listens > 0 && !slices.Contains(whileListening, name) {
		return resp.Error("ERR Can't execute '" + name + "': only (P|S)SUBSCRIBE / (P|S)UNSUBSCRIBE / PING / QUIT / RESET are allowed in this context")
	}
	if m.queues && !slices.Contains(notQueued, name) {
		spec, _ := table.Find(name)
		if spec.Sub {
			m.broken = true
			return resp.Error("ERR Command not allowed inside a transaction")
		}
		if len(m.queue) >= 1024 {
			m.broken = true
			return resp.Error("ERR too many queued commands")
		}
		m.queue = append(m.queue, slices.Clone(args))
		return resp.Status("QUEUED")
	}
	return m.four(sp, name, args, do)
}

// four is the last one of the four rules.
func (m *model) four(sp *keyspace.Space, name string, args []string, do func(db int, args []string) api.Reply) api.Reply {
	ok := resp.Status("OK")
	switch name {
	case "multi":
		if m.queues {
			return resp.Error("ERR MULTI calls can not be nested")
		}
		m.queues, m.broken, m.queue = true, false, nil
		return ok
	case "discard":
		if !m.queues {
			return resp.Error("ERR DISCARD without MULTI")
		}
		m.queues, m.marks = false, map[string]int{}
		return ok
	case "exec":
		return m.exec(sp, do)
	case "watch":
		return m.watch(sp, args[1:])
	case "unwatch":
		m.marks = map[string]int{}
		return ok
	case "select":
		n, err := strconv.Atoi(args[1])
		if err != nil || strconv.Itoa(n) != args[1] {
			return resp.Error("ERR value is not an integer or out of range")
		}
		if n < 0 || n > sp.Config().Spaces-1 {
			return resp.Error("ERR DB index is out of range")
		}
		m.db = n
		return ok
	case "hello":
		return m.hello(args[1:])
	case "reset":
		m.queues, m.marks, m.db, m.proto, m.name = false, map[string]int{}, 0, 2, ""
		return resp.Status("RESET")
	case "quit":
		m.quit = true
		return ok
	case "ping":
		text := strings.Join(args[1:], "")
		if m.proto == 2 && m.listens > 0 {
			return resp.Array(resp.Bulk("pong"), resp.Bulk(text))
		}
		if len(args) == 1 {
			return resp.Status("PONG")
		}
		return resp.Bulk(text)
	case "echo":
		return resp.Bulk(args[1])
	}
	return do(m.db, args)
}

func (m *model) exec(sp *keyspace.Space, do func(db int, args []string) api.Reply) api.Reply {
	if !m.queues {
		return resp.Error("ERR EXEC without MULTI")
	}
	marks := m.marks
	m.queues, m.marks = false, map[string]int{}
	if m.broken {
		return resp.Error("EXECABORT Transaction discarded because of previous errors.")
	}
	for place, mark := range marks {
		db, key, _ := strings.Cut(place, " ")
		n, _ := strconv.Atoi(db)
		if sp.Mark(n, key) != mark {
			return api.Reply{Kind: api.ReplyNulls}
		}
	}
	array := resp.Array()
	for _, args := range m.queue {
		array.List = append(array.List, m.four(sp, strings.ToLower(args[0]), args, do))
	}
	return array
}

func (m *model) watch(sp *keyspace.Space, keys []string) api.Reply {
	if m.queues {
		return resp.Error("ERR WATCH inside MULTI is not allowed")
	}
	all := map[string]int{}
	for _, key := range keys {
		all[strconv.Itoa(m.db)+" "+key] = sp.Mark(m.db, key)
	}
	for place, mark := range m.marks {
		all[place] = mark
	}
	if len(all) > 64 {
		return resp.Error("ERR too many watched keys")
	}
	m.marks = all
	return resp.Status("OK")
}

func (m *model) hello(words []string) api.Reply {
	proto := m.proto
	if len(words) > 0 {
		n, err := strconv.Atoi(words[0])
		if err != nil || strconv.Itoa(n) != words[0] {
			return resp.Error("ERR Protocol version is not an integer or out of range")
		}
		if n != 2 && n != 3 {
			return resp.Error("NOPROTO unsupported protocol version")
		}
		proto = n
	}
	if len(words) > 1 {
		if len(words) != 3 || strings.ToUpper(words[1]) != "SETNAME" {
			return resp.Error("ERR Syntax error in HELLO")
		}
		if m.SetName(words[2]) != api.OK {
			return resp.Error("ERR Client names cannot contain spaces, newlines or special characters.")
		}
	}
	m.proto = proto
	return greeting(m.proto, m.id)
}

// greeting is what HELLO tells.
func greeting(proto, id int) api.Reply {
	return api.Reply{Kind: api.ReplyMap, List: []api.Reply{
		{Kind: api.ReplyBulk, Text: "server"}, {Kind: api.ReplyBulk, Text: "cistern"},
		{Kind: api.ReplyBulk, Text: "version"}, {Kind: api.ReplyBulk, Text: "1"},
		{Kind: api.ReplyBulk, Text: "proto"}, {Kind: api.ReplyInt, N: proto},
		{Kind: api.ReplyBulk, Text: "id"}, {Kind: api.ReplyInt, N: id},
		{Kind: api.ReplyBulk, Text: "mode"}, {Kind: api.ReplyBulk, Text: "standalone"},
		{Kind: api.ReplyBulk, Text: "role"}, {Kind: api.ReplyBulk, Text: "master"},
	}}
}
