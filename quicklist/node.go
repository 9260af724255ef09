package quicklist

import (
	"slices"
	"strings"

	"cistern/api"
	"cistern/listpack"
)

// The greatest bounds.
const (
	mostEntries = 4096
	mostBytes   = 4096
)

// bounds are a list's: how many elements a node has at most, and how many bytes an element has at most that is not large.
type bounds struct {
	entries, bytes int
}

func (b bounds) mayBe() bool {
	return b.entries >= 1 && b.entries <= mostEntries && b.bytes >= 0 && b.bytes <= mostBytes
}

func (b bounds) isLarge(s string) bool { return len(s) > b.bytes }

func (b bounds) hasRoom(n node) bool { return n.count < b.entries && !n.large }

// node is a listpack, with what is asked of it so often that it should not be read for that each time. Its bytes are within the limits of a listpack by the bounds, so that no call of that layer fails.
type node struct {
	pack  string
	count int
	large bool // the one element is large
}

// alone is a new node of one element.
func (b bounds) alone(s string) node {
	pack, _ := listpack.New(s)
	return node{pack: pack, count: 1, large: b.isLarge(s)}
}

// read gives the node that bytes are, if it may be one of a list. It is counted first, so that not all elements are laid down of one that has far too many.
func (b bounds) read(pack string) (node, bool) {
	count, err := listpack.Len(pack)
	if err != api.OK || count < 1 || count > b.entries {
		return node{}, false
	}
	n := node{pack: strings.Clone(pack), count: count}
	n.large = slices.ContainsFunc(n.values(false), b.isLarge)
	return n, !n.large || count == 1
}

func (n node) at(k int) string {
	s, _ := listpack.At(n.pack, k)
	return s
}

// values are all elements; with back, from the last one to the first.
func (n node) values(back bool) []string {
	list, _ := listpack.Walk(n.pack, back)
	return list
}

// part gives the elements from one on to ahead of another one.
func (n node) part(from, to int) []string {
	return n.values(false)[from:to:to]
}

// with is the node with another element, ahead of element k.
func (n node) with(k int, s string) node {
	pack, _ := listpack.Insert(n.pack, k, s)
	return node{pack: pack, count: n.count + 1, large: n.large}
}

// changed is the node with another element in the place of element k.
func (n node) changed(k int, s string) node {
	pack, _ := listpack.Set(n.pack, k, s)
	return node{pack: pack, count: n.count, large: n.large}
}

// without is the node without so many elements from element k on.
func (n node) without(k, many int) node {
	pack, _ := listpack.Delete(n.pack, k, many)
	return node{pack: pack, count: n.count - many, large: n.large}
}

// ahead is the first part of a node that is cut ahead of element k.
func (n node) ahead(k int) node { return n.without(k, n.count-k) }

// from is the second part of a node that is cut ahead of element k.
func (n node) from(k int) node { return n.without(0, k) }

func (n node) isEmpty() bool { return n.count == 0 }
