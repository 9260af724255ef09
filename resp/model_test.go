package resp

import (
	"fmt"
	"math"
	"math/big"
	"regexp"
	"strings"

	"cistern/api"
)

// The models here are the chapter's words, on whole texts, without a thought of work or memory.

const (
	tooBigCount  = "Protocol error: too big mbulk count string"
	wrongCount   = "Protocol error: invalid multibulk length"
	tooBigLength = "Protocol error: too big bulk count string"
	wrongLength  = "Protocol error: invalid bulk length"
	tooBigLine   = "Protocol error: too big inline request"
	wrongQuotes  = "Protocol error: unbalanced quotes in request"
)

func expected(b byte) string {
	return "Protocol error: expected '$', got '" + string([]byte{b}) + "'"
}

// modelFeed: what a parser has told behind these bytes in all, and what it holds.
func modelFeed(all string) ([]api.Request, int) {
	var list []api.Request
	for all != "" {
		words, size, fault := modelRequest(all)
		if fault != "" {
			return append(list, api.Request{Err: fault}), 0
		}
		if size == 0 {
			return list, len(all)
		}
		if len(words) > 0 {
			list = append(list, api.Request{Args: words})
		}
		all = all[size:]
	}
	return list, 0
}

// modelRequest: the words of the request at the beginning and its size (0: it is not whole), or its fault.
func modelRequest(s string) ([]string, int, string) {
	if s[0] != '*' {
		line, size, fault := modelLine(s, api.MaxInline, tooBigLine)
		if fault != "" || size == 0 {
			return nil, 0, fault
		}
		words, ok := modelSplit(line)
		if !ok {
			return nil, 0, wrongQuotes
		}
		return words, size, ""
	}
	line, at, fault := modelLine(s, 64, tooBigCount)
	if fault != "" || at == 0 {
		return nil, 0, fault
	}
	n := modelNumber(line[1:])
	if n == nil || n.Cmp(big.NewInt(api.MaxArgs)) > 0 {
		return nil, 0, wrongCount
	}
	var words []string
	sum := int64(0)
	for i := int64(0); i < n.Int64(); i++ {
		if at == len(s) {
			return nil, 0, ""
		}
		if s[at] != '$' {
			return nil, 0, expected(s[at])
		}
		line, size, fault := modelLine(s[at:], 64, tooBigLength)
		if fault != "" || size == 0 {
			return nil, 0, fault
		}
		m := modelNumber(line[1:])
		if m == nil || m.Sign() < 0 || m.Cmp(big.NewInt(api.MaxElement)) > 0 || sum+m.Int64() > api.MaxRequest {
			return nil, 0, wrongLength
		}
		sum += m.Int64()
		at += size
		if len(s) < at+int(m.Int64())+2 {
			return nil, 0, ""
		}
		words = append(words, s[at:at+int(m.Int64())])
		at += int(m.Int64()) + 2
	}
	return words, at, ""
}

func modelLine(s string, most int, fault string) (string, int, string) {
	end := strings.Index(s, "\n")
	if end > most || end < 0 && len(s) > most {
		return "", 0, fault
	}
	if end < 0 {
		return "", 0, ""
	}
	if end > 0 && s[end-1] == '\r' {
		return s[:end-1], end + 1, ""
	}
	return s[:end], end + 1, ""
}

var numbers = regexp.MustCompile(`^(0|-?[1-9][0-9]*)$`)

// modelNumber: nil, if it is not a number's text.
func modelNumber(s string) *big.Int {
	if len(s) > 99 || !numbers.MatchString(s) {
		return nil
	}
	n, _ := new(big.Int).SetString(s, 10)
	if !n.IsInt64() {
		return nil
	}
	return n
}

var (
	blanks  = regexp.MustCompile(`^[ \t\n\v\f\r]*`)
	plain   = regexp.MustCompile(`^[^ \t\n\v\f\r"']*`)
	escapes = regexp.MustCompile(`(?s)\\(x[0-9a-fA-F]{2}|.)`)
	named   = map[string]string{`\n`: "\n", `\r`: "\r", `\t`: "\t", `\b`: "\b", `\a`: "\a"}
)

// modelSplit: in single quotes a quote is escaped just where a backslash stands ahead of it, in double quotes where an odd number of them does.
func modelSplit(line string) ([]string, bool) {
	var words []string
	for {
		line = line[len(blanks.FindString(line)):]
		if line == "" {
			return words, true
		}
		word := plain.FindString(line)
		line = line[len(word):]
		if line != "" && (line[0] == '"' || line[0] == '\'') {
			size := modelQuoted(line)
			if size == 0 || size < len(line) && !strings.Contains(" \t\n\v\f\r", line[size:size+1]) {
				return nil, false
			}
			if within := line[1 : size-1]; line[0] == '"' {
				word += escapes.ReplaceAllStringFunc(within, modelEscape)
			} else {
				word += strings.ReplaceAll(within, `\'`, `'`)
			}
			line = line[size:]
		}
		words = append(words, word)
	}
}

// modelQuoted: how many bytes stand up to the quote that closes the first one, both with them; 0: none does.
func modelQuoted(line string) int {
	for i := 1; i < len(line); i++ {
		if line[i] != line[0] {
			continue
		}
		ahead := line[1:i]
		escapes := len(ahead) - len(strings.TrimRight(ahead, `\`))
		if line[0] == '"' && escapes%2 == 0 || line[0] == '\'' && escapes == 0 {
			return i + 1
		}
	}
	return 0
}

func modelEscape(s string) string {
	if len(s) == 4 && s[1] == 'x' {
		n := new(big.Int)
		if _, ok := n.SetString(s[2:], 16); ok {
			return string([]byte{byte(n.Int64())})
		}
	}
	if b, ok := named[s]; ok {
		return b
	}
	return s[1:]
}

// modelEncode: false for ErrArg.
func modelEncode(r api.Reply, proto int) (string, bool) {
	if proto != 2 && proto != 3 || !modelCan(r, 0) {
		return "", false
	}
	return modelBytes(r, proto), true
}

// modelCan: whether a reply in so many lists can be written.
func modelCan(r api.Reply, within int) bool {
	switch r.Kind {
	case api.ReplyArray, api.ReplyMap, api.ReplySet, api.ReplyPush:
		if within+1 > 32 || r.Kind == api.ReplyMap && len(r.List)%2 == 1 {
			return false
		}
		for _, x := range r.List {
			if x.Kind == api.ReplyNone || !modelCan(x, within+1) {
				return false
			}
		}
		return true
	}
	return r.Kind >= 0 && r.Kind <= 11
}

var oneLine = strings.NewReplacer("\r", " ", "\n", " ")

func modelBytes(r api.Reply, proto int) string {
	both := map[int]string{
		api.ReplyStatus: "+" + oneLine.Replace(r.Text) + "\r\n",
		api.ReplyError:  "-" + oneLine.Replace(r.Text) + "\r\n",
		api.ReplyInt:    fmt.Sprintf(":%d\r\n", r.N),
		api.ReplyBulk:   fmt.Sprintf("$%d\r\n%s\r\n", len(r.Text), r.Text),
		api.ReplyNone:   "",
	}
	if s, ok := both[r.Kind]; ok {
		return s
	}
	bit := 0
	if r.N != 0 {
		bit = 1
	}
	single := map[int][2]string{
		api.ReplyNull:  {"$-1\r\n", "_\r\n"},
		api.ReplyNulls: {"*-1\r\n", "_\r\n"},
		api.ReplyBool:  {fmt.Sprintf(":%d\r\n", bit), "#" + "ft"[bit:bit+1] + "\r\n"},
	}
	if s, ok := single[r.Kind]; ok {
		return s[proto-2]
	}
	var parts strings.Builder
	for _, x := range r.List {
		parts.WriteString(modelBytes(x, proto))
	}
	head := fmt.Sprintf("*%d\r\n", len(r.List))
	if proto == 3 {
		switch r.Kind {
		case api.ReplyMap:
			head = fmt.Sprintf("%%%d\r\n", len(r.List)/2)
		case api.ReplySet:
			head = "~" + head[1:]
		case api.ReplyPush:
			head = ">" + head[1:]
		}
	}
	return head + parts.String()
}

// modelDecode goes from reply to reply; short and frame are given up by panic.
func modelDecode(s string) (r api.Reply, n int, e api.Errno) {
	defer func() {
		if x := recover(); x != nil {
			r, n, e = api.Reply{}, 0, x.(api.Errno)
		}
	}()
	r, rest := modelReply(s, 1)
	return r, len(s) - len(rest), api.OK
}

// modelReply: the reply at the beginning, at this depth if it is a list, and what is behind it.
func modelReply(s string, depth int) (api.Reply, string) {
	if s == "" {
		panic(api.ErrShort)
	}
	mark, s := s[0], s[1:]
	most := int64(api.MaxCount)
	if depth > 32 {
		most = -1
	}
	switch mark {
	case '+', '-':
		i := strings.IndexAny(s, "\r\n")
		if i < 0 {
			panic(api.ErrShort)
		}
		kind := map[byte]int{'+': api.ReplyStatus, '-': api.ReplyError}[mark]
		return api.Reply{Kind: kind, Text: s[:i]}, modelText(s[i:], "\r\n")
	case ':':
		n, rest := modelHead(s, math.MinInt64, math.MaxInt64)
		return api.Reply{Kind: api.ReplyInt, N: int(n)}, rest
	case '_':
		return api.Reply{}, modelText(s, "\r\n")
	case '#':
		if strings.HasPrefix(s, "t") {
			return api.Reply{Kind: api.ReplyBool, N: 1}, modelText(s, "t\r\n")
		}
		return api.Reply{Kind: api.ReplyBool}, modelText(s, "f\r\n")
	case '$':
		n, rest := modelHead(s, -1, api.MaxElement)
		if n < 0 {
			return api.Reply{}, rest
		}
		if len(rest) < int(n) {
			panic(api.ErrShort)
		}
		return api.Reply{Kind: api.ReplyBulk, Text: rest[:n]}, modelText(rest[n:], "\r\n")
	case '*':
		n, rest := modelHead(s, -1, most)
		if n < 0 {
			return api.Reply{Kind: api.ReplyNulls}, rest
		}
		return modelList(api.ReplyArray, int(n), rest, depth)
	case '%':
		n, rest := modelHead(s, 0, most>>1)
		return modelList(api.ReplyMap, int(2*n), rest, depth)
	case '~':
		n, rest := modelHead(s, 0, most)
		return modelList(api.ReplySet, int(n), rest, depth)
	case '>':
		n, rest := modelHead(s, 0, most)
		return modelList(api.ReplyPush, int(n), rest, depth)
	}
	panic(api.ErrFrame)
}

func modelList(kind, n int, s string, depth int) (api.Reply, string) {
	r := api.Reply{Kind: kind}
	for range n {
		var x api.Reply
		x, s = modelReply(s, depth+1)
		r.List = append(r.List, x)
	}
	return r, s
}

func modelText(s, want string) string {
	if strings.HasPrefix(s, want) {
		return s[len(want):]
	}
	if strings.HasPrefix(want, s) {
		panic(api.ErrShort)
	}
	panic(api.ErrFrame)
}

// modelHead: a line's number from lo to hi. What is there of it byte by byte must be the beginning of such a number's text.
func modelHead(s string, lo, hi int64) (int64, string) {
	if lo > hi {
		panic(api.ErrFrame)
	}
	for i := range len(s) {
		n := modelNumber(s[:i])
		if s[i] == '\r' && n != nil {
			return n.Int64(), modelText(s[i:], "\r\n")
		}
		if n = modelNumber(s[:i+1]); s[:i+1] == "-" && lo < 0 {
			continue
		} else if n == nil || n.Cmp(big.NewInt(lo)) < 0 || n.Cmp(big.NewInt(hi)) > 0 {
			panic(api.ErrFrame)
		}
	}
	panic(api.ErrShort)
}
