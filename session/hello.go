package session

import (
	"errors"

	"cistern/api"
	"cistern/resp"
	"cistern/table"
	"cistern/varint"
)

// What a client is told whose HELLO can't be.
var (
	errVersion  = errors.New("ERR Protocol version is not an integer or out of range")
	errProtocol = errors.New("NOPROTO unsupported protocol version")
	errSyntax   = errors.New("ERR Syntax error in HELLO")
	errName     = errors.New("ERR Client names cannot contain spaces, newlines or special characters.")
)

func (s *Session) hello(r request) api.Reply {
	if words := r.args[1:]; len(words) > 0 {
		if err := s.agree(words[0], words[1:]); err != nil {
			return resp.Error(err.Error())
		}
	}
	return s.introduction()
}

// agree takes the protocol that a client asks for, and its name, if it tells one.
func (s *Session) agree(version string, rest []string) error {
	proto, ok := varint.Number(version)
	switch {
	case !ok:
		return errVersion
	case proto != proto2 && proto != proto3:
		return errProtocol
	case len(rest) > 0 && !isName(rest):
		return errSyntax
	case len(rest) > 0 && s.SetName(rest[1]) != api.OK:
		return errName
	}
	s.proto = proto
	return nil
}

// isName tells whether words are SETNAME and a name.
func isName(words []string) bool {
	return len(words) == 2 && table.Lower(words[0]) == "setname"
}

// introduction tells a client who answers it.
func (s *Session) introduction() api.Reply {
	return api.Reply{Kind: api.ReplyMap, List: []api.Reply{
		resp.Bulk("server"), resp.Bulk("cistern"),
		resp.Bulk("version"), resp.Bulk("1"),
		resp.Bulk("proto"), resp.Int(s.proto),
		resp.Bulk("id"), resp.Int(s.id),
		resp.Bulk("mode"), resp.Bulk("standalone"),
		resp.Bulk("role"), resp.Bulk("master"),
	}}
}
