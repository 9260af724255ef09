package value

import (
	"slices"
	"strings"

	"cistern/listpack"
)

// room is up to what a group stays in one listpack.
type room struct {
	names, size int
}

// holds tells whether so many names may stand in a listpack, with texts of these lengths.
func (r room) holds(names int, texts ...string) bool {
	return names <= r.names && !slices.ContainsFunc(texts, func(s string) bool { return len(s) > r.size })
}

// packed keeps a group in one listpack, each name with what it has behind it. By its room no listpack grows so long that layer 6 refuses it.
type packed struct {
	room    room
	width   int // entries of each name, itself with them
	weighed int // how many of these count with their bytes
	pack    string
	size    int // names
	weight  int
}

func newPacked(r room, width, weighed int) packed {
	p := packed{room: r, width: width, weighed: weighed}
	p.hold()
	return p
}

// hold lets it keep these entries in the place of what it has.
func (p *packed) hold(entries ...string) {
	p.pack, _ = listpack.New(entries...)
	p.size = len(entries) / p.width
	p.weight = 0
	for i, entry := range entries {
		if i%p.width < p.weighed {
			p.weight += len(entry)
		}
	}
}

func (p *packed) entries() []string {
	entries, _ := listpack.Walk(p.pack, false)
	return entries
}

func (p *packed) names() []string { return namesIn(p.entries(), p.width) }

// namesIn gives the names among entries, so many of which each name has, itself ahead of the others.
func namesIn(entries []string, width int) []string {
	names := make([]string, 0, len(entries)/width)
	for i := 0; i < len(entries); i += width {
		names = append(names, entries[i])
	}
	return names
}

// place is the place of a name's entry, or below 0.
func (p *packed) place(name string) int {
	at, _ := listpack.Find(p.pack, 0, p.width, name)
	return at
}

// behind gives the entry that a name has behind it.
func (p *packed) behind(name string) (string, bool) {
	at := p.place(name)
	if at < 0 {
		return "", false
	}
	entry, _ := listpack.At(p.pack, at+1)
	return entry, true
}

func (p *packed) encoding() string                   { return "listpack" }
func (p *packed) raw() []string                      { return []string{strings.Clone(p.pack)} }
func (p *packed) count() int                         { return p.size }
func (p *packed) bytes() int                         { return p.weight }
func (p *packed) scan(cursor, n int) ([]string, int) { return p.names(), 0 }
func (p *packed) knows() func(string) bool           { return among(p.names()) }

func (p *packed) twin() packed {
	twin := *p
	twin.pack = strings.Clone(p.pack)
	return twin
}

func (p *packed) drop(names ...string) int {
	old, gone := p.size, among(names)
	var left []string
	for whole := range slices.Chunk(p.entries(), p.width) {
		if !gone(whole[0]) {
			left = append(left, whole...)
		}
	}
	p.hold(left...)
	return old - p.size
}
