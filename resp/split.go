package resp

import "strconv"

// splitter goes through a line; word is what it has of the present word.
type splitter struct {
	line string
	at   int
	word []byte
}

// Split gives the words of a line.
func Split(line string) ([]string, bool) {
	var words []string
	s := splitter{line: line}
	for s.skip() {
		if !s.take() {
			return nil, false
		}
		words = append(words, string(s.word))
	}
	return words, true
}

// skip goes over blanks; whether a word follows.
func (s *splitter) skip() bool {
	for s.at < len(s.line) && blank(s.line[s.at]) {
		s.at++
	}
	return s.at < len(s.line)
}

// take takes a word; false, if a quote of it is not closed, or not at its end.
func (s *splitter) take() bool {
	s.word = s.word[:0]
	for !s.ended() {
		switch b := s.next(); b {
		case '"':
			return s.quoted(b, s.escaped) && s.ended()
		case '\'':
			return s.quoted(b, s.escapedQuote) && s.ended()
		default:
			s.word = append(s.word, b)
		}
	}
	return true
}

// ended tells whether a word can be over here.
func (s *splitter) ended() bool {
	return s.at == len(s.line) || blank(s.line[s.at])
}

// next takes a byte.
func (s *splitter) next() byte {
	b := s.line[s.at]
	s.at++
	return b
}

// quoted takes what stands in quotes, and the quote that closes them; what a backslash means is told by escape. False, if they are not closed.
func (s *splitter) quoted(quote byte, escape func() byte) bool {
	for s.at < len(s.line) {
		b := s.next()
		if b == quote {
			return true
		}
		if b == '\\' && s.at < len(s.line) {
			b = escape()
		}
		s.word = append(s.word, b)
	}
	return false
}

// escaped takes what stands behind a backslash in double quotes: the byte that both are.
func (s *splitter) escaped() byte {
	switch b := s.next(); b {
	case 'x':
		return s.hexadecimal()
	case 'n':
		return '\n'
	case 'r':
		return '\r'
	case 't':
		return '\t'
	case 'b':
		return '\b'
	case 'a':
		return '\a'
	default:
		return b
	}
}

// hexadecimal takes the two digits behind an escaped x; without them it is an x like any other byte.
func (s *splitter) hexadecimal() byte {
	end := s.at + 2
	if end > len(s.line) {
		return 'x'
	}
	n, err := strconv.ParseUint(s.line[s.at:end], 16, 8)
	if err != nil {
		return 'x'
	}
	s.at = end
	return byte(n)
}

// escapedQuote takes a quote behind a backslash in single quotes; all else behind it stands for itself, and so does the backslash.
func (s *splitter) escapedQuote() byte {
	if s.line[s.at] != '\'' {
		return '\\'
	}
	return s.next()
}

func blank(b byte) bool {
	switch b {
	case ' ', '\t', '\n', '\v', '\f', '\r':
		return true
	}
	return false
}
