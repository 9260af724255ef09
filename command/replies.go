package command

import (
	"cistern/api"
	"cistern/resp"
)

// YesOrNo tells 1 or 0.
func YesOrNo(yes bool) api.Reply {
	if yes {
		return resp.Int(1)
	}
	return resp.Int(0)
}

// NullArray tells the null in the place of an array.
func NullArray() api.Reply { return api.Reply{Kind: api.ReplyNulls} }

// Listed is a reply of a kind with texts that are nobody else's memory. They are not copied again, as one of them may be listed very often.
func Listed(kind int, texts ...string) api.Reply {
	list := make([]api.Reply, len(texts))
	for i, text := range texts {
		list[i] = api.Reply{Kind: api.ReplyBulk, Text: text}
	}
	return api.Reply{Kind: kind, List: list}
}
