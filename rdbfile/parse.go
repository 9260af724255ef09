package rdbfile

import (
	"slices"
	"strings"

	"cistern/api"
	"cistern/codec"
	"cistern/crc"
	"cistern/varint"
)

// part is a sort of a file's parts.
type part int

const (
	headPart part = iota
	auxPart
	selectPart
	resizePart
	itemPart
	endPart
)

// parser reads a file part by part. Where it is none it is given up with a panic, however deep within that is found.
type parser struct {
	s        string
	in       *varint.Reader
	begin    int  // where the part begins that is being read
	ahead    part // the part ahead of it
	all      int  // items of all spaces so far
	tally    tally
	image    api.Image
	findings []api.Finding
}

// tally is what is known of the space that is being read.
type tally struct {
	resize    int // where its resize begins
	told, met counts
	keys      map[string]struct{}
}

// counts are the numbers that a resize tells.
type counts struct{ items, expiries int }

func newParser(s string) *parser { return &parser{s: s, in: varint.NewReader(s)} }

// read reads all of a file: how many bytes it has, or where it is at fault.
func (p *parser) read() (at int, e api.Errno) {
	defer func() {
		if given := recover(); given != nil {
			at, e = met(given, p.begin)
		}
	}()
	p.head()
	for p.ahead != endPart {
		p.part()
	}
	return p.in.At(), api.OK
}

// part reads the next part.
func (p *parser) part() {
	p.begin = p.in.At()
	expiry := never
	first := p.byte()
	switch first {
	case auxByte:
		p.mustFollow(headPart, auxPart)
		p.aux()
	case selectByte:
		p.mustFollow(headPart, auxPart, itemPart)
		p.endSpace()
		p.beginSpace()
	case resizeByte:
		p.mustFollow(selectPart)
		p.resize()
	case endByte:
		p.mustFollow(headPart, auxPart, itemPart)
		p.endSpace()
		p.end()
	case expiryByte:
		p.mustFollow(resizePart, itemPart)
		expiry = p.expiry()
		first = p.byte()
		fallthrough
	default:
		p.mustFollow(resizePart, itemPart)
		p.item(first, expiry)
	}
}

// mustFollow gives the file up, if the part ahead is of none of these sorts.
func (p *parser) mustFollow(ahead ...part) {
	must(slices.Contains(ahead, p.ahead), api.ErrOpcode)
}

func (p *parser) head() {
	there := p.s[:min(len(letters), len(p.s))]
	must(strings.HasPrefix(letters, there), api.ErrHead)
	p.take(len(letters))
	must(p.take(len(version)) == version, api.ErrVersion)
	p.ahead = headPart
}

func (p *parser) aux() {
	name := p.text(api.MaxElement)
	value := p.text(api.MaxElement)
	p.image.Aux = append(p.image.Aux, api.Pair{Name: name, Value: value})
	p.ahead = auxPart
}

func (p *parser) beginSpace() {
	index := p.length()
	must(index < api.MaxSpaces, api.ErrLong)
	if p.ahead == itemPart {
		must(index > p.index(), api.ErrTwice)
	}
	p.image.Spaces = append(p.image.Spaces, api.Space{Index: index})
	p.ahead = selectPart
}

// resize takes the counts as they are told, and makes no room by them: few bytes may tell great ones.
func (p *parser) resize() {
	told := counts{items: p.length()}
	told.expiries = p.length()
	must(told.items <= api.MaxKeys, api.ErrLong)
	must(told.items > 0 && told.expiries <= told.items, api.ErrForm)
	p.tally = tally{resize: p.begin, told: told, keys: map[string]struct{}{}}
	p.ahead = resizePart
}

// expiry reads one behind its first byte.
func (p *parser) expiry() int {
	at := timeOf(p.take(eight))
	must(at <= api.MaxNumber, api.ErrForm)
	p.tally.met.expiries++
	return int(at)
}

// item reads one behind its type.
func (p *parser) item(typ, expiry int) {
	must(codec.Kind(typ) != api.KindNone, api.ErrOpcode)
	key := p.key()
	p.all++
	must(p.all <= api.MaxKeys, api.ErrLong)
	p.tally.met.items++
	item := api.Item{Key: key, Body: p.body(typ), Type: typ, Expiry: expiry}
	space := &p.image.Spaces[len(p.image.Spaces)-1]
	space.Items = append(space.Items, item)
	p.findings = append(p.findings, api.Finding{
		At: p.begin, Size: p.in.At() - p.begin,
		Space: space.Index, Type: typ, Key: key,
	})
	p.ahead = itemPart
}

// key reads one that does not stand in the space yet.
func (p *parser) key() string {
	key := p.text(api.MaxKey)
	_, twice := p.tally.keys[key]
	must(!twice, api.ErrTwice)
	p.tally.keys[key] = struct{}{}
	return key
}

func (p *parser) body(typ int) string {
	size, e := codec.Size(typ, p.left())
	mustBeOK(e)
	return strings.Clone(p.take(size))
}

// endSpace holds the space's items against its resize. Ahead of the first space there are none, and none are told.
func (p *parser) endSpace() {
	mustAt(p.tally.resize, p.tally.met == p.tally.told, api.ErrForm)
}

// end reads the end behind its first byte.
func (p *parser) end() {
	sum := crc.Sum(p.s[:p.in.At()])
	must(p.take(eight) == crc.Text(sum), api.ErrSum)
	mustAt(p.in.At(), p.in.Left() == 0, api.ErrBehind)
	p.ahead = endPart
}

// index is that of the last space.
func (p *parser) index() int { return p.image.Spaces[len(p.image.Spaces)-1].Index }

func (p *parser) byte() int {
	b, e := p.in.Byte()
	mustBeOK(e)
	return b
}

func (p *parser) take(n int) string {
	bytes, e := p.in.Take(n)
	mustBeOK(e)
	return bytes
}

// length reads a length for which no special byte may stand.
func (p *parser) length() int {
	n, form, e := p.in.Len()
	mustBeOK(e)
	must(form == 0, api.ErrForm)
	return n
}

// text reads a text of at most so many bytes.
func (p *parser) text(most int) string {
	text, size, e := codec.Text(p.left())
	mustBeOK(e)
	must(len(text) <= most, api.ErrLong)
	p.take(size)
	return text
}

// left is what has not been read yet.
func (p *parser) left() string { return p.s[p.in.At():] }
