package session

import (
	"strings"

	"cistern/api"
	"cistern/keyspace"
	"cistern/resp"
)

// request is what one that may be done now is done with.
type request struct {
	space *keyspace.Space
	args  []string
	do    func(db int, args []string) api.Reply
}

// perform does a request: by its row, if it is one of the session's own.
func (s *Session) perform(r request) api.Reply {
	if own := rowOf(r.args[0]); own.do != nil {
		return own.do(s, r)
	}
	if r.do == nil {
		return api.Reply{}
	}
	return r.do(s.db, r.args)
}

// listensOnly tells whether a request may have to wait till it listens no more: by protocol 2 a client can't tell messages and replies apart.
func (s *Session) listensOnly() bool { return s.proto == proto2 && s.listens > 0 }

// queue is what has come since MULTI.
type queue struct {
	requests [][]string
	broken   bool // EXEC does none of it
}

// spoil breaks the queue, if there is one.
func (s *Session) spoil() {
	if s.queue != nil {
		s.queue.broken = true
	}
}

// take lays a request's words behind the others.
func (q *queue) take(spec api.Spec, args []string) api.Reply {
	switch {
	case spec.Sub:
		return q.refuse("ERR Command not allowed inside a transaction")
	case len(q.requests) == api.MaxQueued:
		return q.refuse("ERR too many queued commands")
	}
	q.requests = append(q.requests, copied(args))
	return resp.Status("QUEUED")
}

func (q *queue) refuse(text string) api.Reply {
	q.broken = true
	return resp.Error(text)
}

// copied keeps words apart from those that were handed in.
func copied(words []string) []string {
	list := make([]string, len(words))
	for i, word := range words {
		list[i] = strings.Clone(word)
	}
	return list
}
