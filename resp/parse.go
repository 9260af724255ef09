package resp

import (
	"strings"

	"cistern/api"
	"cistern/varint"
)

// maxHead is how many bytes of a line that tells a number may come without its end.
const maxHead = 64

// The errors of requests.
const (
	longCount  = "Protocol error: too big mbulk count string"
	badCount   = "Protocol error: invalid multibulk length"
	longLength = "Protocol error: too big bulk count string"
	badLength  = "Protocol error: invalid bulk length"
	longLine   = "Protocol error: too big inline request"
	badLine    = "Protocol error: unbalanced quotes in request"
)

// state is where a parser stands between two bytes.
type state int

const (
	atRequest state = iota // ahead of a request
	inCount                // in the line that tells how many words it has
	atWord                 // ahead of a word's line
	inLength               // in the line that tells how many bytes a word has
	inWord                 // in these bytes, or the two behind them
	inLine                 // in a request that is a line of words
	atFault                // behind an error
)

// outcome is what has become of a request where the reading of it stops.
type outcome int

const (
	waits outcome = iota // its other bytes have not come
	over                 // it is at its end, and not told
	told                 // it is told, whole or at fault
)

// Parser reads a client's requests.
type Parser struct {
	state state
	held  int      // how many bytes of the present request have come
	part  []byte   // what has come of its present line, or of its present word
	words []string // its words that are whole
	more  int      // how many others it has
	total int      // bytes of all its words so far, the present one with them
	size  int      // bytes of the present word
}

// New makes a parser that was fed nothing.
func New() *Parser { return &Parser{} }

// Feed takes bytes; the requests that are whole now.
func (p *Parser) Feed(chunk string) []api.Request {
	var list []api.Request
	for chunk != "" && p.state != atFault {
		rest, request, out := p.read(chunk)
		if out == waits {
			p.held += len(chunk)
			break
		}
		if out == told {
			list = append(list, request)
		}
		p.forget(request.Err != "")
		chunk = rest
	}
	return list
}

// Held tells how many bytes have come of a request that has not ended.
func (p *Parser) Held() int { return p.held }

// forget lets go of a request that has ended.
func (p *Parser) forget(fault bool) {
	*p = Parser{}
	if fault {
		p.state = atFault
	}
}

// read takes bytes of one request, from where the last ones left it, until it ends or they do: what is left of them, the request and what has become of it.
func (p *Parser) read(in string) (string, api.Request, outcome) {
	var ok bool
	switch p.state {
	case inCount:
		goto count
	case atWord:
		goto word
	case inLength:
		goto length
	case inWord:
		goto body
	case inLine:
		goto line
	}
	if in[0] != '*' {
		goto line
	}
count:
	p.state = inCount
	if in, ok = p.toEnd(in, maxHead); !ok {
		return p.unended(maxHead, longCount)
	}
	if !p.count() {
		return stop(badCount)
	}
	if p.more < 1 {
		return in, api.Request{}, over
	}
word:
	p.state = atWord
	if in == "" {
		return stop("")
	}
	if in[0] != '$' {
		return stop("Protocol error: expected '$', got '" + in[:1] + "'")
	}
length:
	p.state = inLength
	if in, ok = p.toEnd(in, maxHead); !ok {
		return p.unended(maxHead, longLength)
	}
	if !p.length() {
		return stop(badLength)
	}
body:
	p.state = inWord
	if in, ok = p.toSize(in); !ok {
		return stop("")
	}
	if p.more > 0 {
		goto word
	}
	return in, api.Request{Args: p.words}, told
line:
	p.state = inLine
	if in, ok = p.toEnd(in, api.MaxInline); !ok {
		return p.unended(api.MaxInline, longLine)
	}
	return p.line(in)
}

// stop ends the reading with a fault; without one (the text is empty) till other bytes come.
func stop(fault string) (string, api.Request, outcome) {
	if fault == "" {
		return "", api.Request{}, waits
	}
	return "", api.Request{Err: fault}, told
}

// toEnd takes the present line's bytes up to its byte 10, and gives what is behind it; false, if there is none among the first most + 1.
func (p *Parser) toEnd(in string, most int) (string, bool) {
	reach := min(most+1-len(p.part), len(in))
	end := strings.IndexByte(in[:reach], '\n')
	if end < 0 {
		p.part = append(p.part, in[:reach]...)
		return "", false
	}
	p.part = append(p.part, in[:end]...)
	return in[end+1:], true
}

// unended stops in a line whose byte 10 has not come: with the fault, if it comes too late now.
func (p *Parser) unended(most int, fault string) (string, api.Request, outcome) {
	if len(p.part) > most {
		return stop(fault)
	}
	return stop("")
}

// endedLine gives the line that toEnd took, and makes room for what comes next.
func (p *Parser) endedLine() string {
	line := strings.TrimSuffix(string(p.part), "\r")
	p.part = p.part[:0]
	return line
}

// count reads how many words there are; false, if that can't be.
func (p *Parser) count() bool {
	n, ok := varint.Number(p.endedLine()[1:])
	p.more = n
	return ok && n <= api.MaxArgs
}

// length reads how many bytes the next word has; false, if that can't be.
func (p *Parser) length() bool {
	n, ok := varint.Number(p.endedLine()[1:])
	if !ok || n < 0 || n > api.MaxElement {
		return false
	}
	p.size = n
	p.total += n
	return p.total <= api.MaxRequest
}

// toSize takes the present word's bytes and the two behind them, and gives what is behind those; false, if they have not all come.
func (p *Parser) toSize(in string) (string, bool) {
	missing := p.size + len(crlf) - len(p.part)
	if len(in) < missing {
		p.part = append(p.part, in...)
		return "", false
	}
	p.part = append(p.part, in[:missing]...)
	p.words = append(p.words, string(p.part[:p.size]))
	p.part = p.part[:0]
	p.more--
	return in[missing:], true
}

// line reads a line of words; in is what is behind it.
func (p *Parser) line(in string) (string, api.Request, outcome) {
	words, ok := Split(p.endedLine())
	if !ok {
		return stop(badLine)
	}
	if len(words) == 0 {
		return in, api.Request{}, over
	}
	return in, api.Request{Args: words}, told
}
