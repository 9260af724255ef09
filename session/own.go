package session

import (
	"cistern/api"
	"cistern/resp"
	"cistern/table"
	"cistern/varint"
)

// row is a command of the session's own.
type row struct {
	name      string
	atOnce    bool // it is not queued
	listening bool // it may come while a client with protocol 2 listens
	do        func(s *Session, r request) api.Reply
}

// rows are those commands.
func rows() []row {
	return []row{
		{name: "multi", atOnce: true, do: (*Session).multi},
		{name: "discard", atOnce: true, do: (*Session).discard},
		{name: "exec", atOnce: true, do: (*Session).exec},
		{name: "watch", atOnce: true, do: (*Session).watch},
		{name: "unwatch", do: (*Session).unwatch},
		{name: "select", do: (*Session).choose},
		{name: "hello", do: (*Session).hello},
		{name: "reset", atOnce: true, listening: true, do: (*Session).reset},
		{name: "quit", atOnce: true, listening: true, do: (*Session).quit},
		{name: "ping", listening: true, do: (*Session).ping},
		{name: "echo", do: (*Session).echo},
	}
}

// rowOf is the row of a command, by its name in any letters; an empty one, if it is not the session's own.
func rowOf(name string) row {
	name = table.Lower(name)
	for _, r := range rows() {
		if r.name == name {
			return r
		}
	}
	return row{}
}

// done is what is told where nothing else is.
func done() api.Reply { return resp.Fault(api.OK) }

func (s *Session) multi(request) api.Reply {
	if s.queue != nil {
		return resp.Error("ERR MULTI calls can not be nested")
	}
	s.queue = &queue{}
	return done()
}

func (s *Session) discard(request) api.Reply {
	if s.queue == nil {
		return resp.Error("ERR DISCARD without MULTI")
	}
	s.letGo()
	return done()
}

// letGo ends a transaction, or the preparation of one.
func (s *Session) letGo() { s.queue, s.watched = nil, nil }

func (s *Session) exec(r request) api.Reply {
	if s.queue == nil {
		return resp.Error("ERR EXEC without MULTI")
	}
	queue, watched := s.queue, s.watched
	s.letGo()
	switch {
	case queue.broken:
		return resp.Error("EXECABORT Transaction discarded because of previous errors.")
	case changed(watched, r.space):
		return api.Reply{Kind: api.ReplyNulls}
	}
	var replies []api.Reply
	for _, args := range queue.requests {
		replies = append(replies, s.perform(request{r.space, args, r.do}))
	}
	return resp.Array(replies...)
}

func (s *Session) watch(r request) api.Reply {
	if s.queue != nil {
		return resp.Error("ERR WATCH inside MULTI is not allowed")
	}
	list, ok := watching(s.watched, r.space, s.db, r.args[1:])
	if !ok {
		return resp.Error("ERR too many watched keys")
	}
	s.watched = list
	return done()
}

func (s *Session) unwatch(request) api.Reply {
	s.watched = nil
	return done()
}

// choose is SELECT.
func (s *Session) choose(r request) api.Reply {
	db, ok := varint.Number(r.args[1])
	switch {
	case !ok:
		return resp.Fault(api.ErrNumber)
	case db < 0 || db >= r.space.Config().Spaces:
		return resp.Error("ERR DB index is out of range")
	}
	s.db = db
	return done()
}

func (s *Session) reset(request) api.Reply {
	s.letGo()
	s.db, s.proto, s.name = 0, proto2, ""
	return resp.Status("RESET")
}

// quit leaves the closing to Tell, so that the client is told this answer.
func (s *Session) quit(request) api.Reply {
	s.quits = true
	return done()
}

func (s *Session) ping(r request) api.Reply {
	text := r.args[1:]
	switch {
	case s.listensOnly():
		return resp.Texts(append([]string{"pong"}, first(text))...)
	case len(text) == 0:
		return resp.Status("PONG")
	}
	return resp.Bulk(first(text))
}

// first is the first word; the empty one of none.
func first(words []string) string {
	if len(words) == 0 {
		return ""
	}
	return words[0]
}

func (s *Session) echo(r request) api.Reply { return resp.Bulk(r.args[1]) }
