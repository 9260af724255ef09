package glob

// The bytes that tell a pattern's steps and a set's members apart.
const (
	star     = '*'
	anyByte  = '?'
	escape   = '\\'
	setBegin = '['
	setEnd   = ']'
	turnOver = '^'
	upTo     = '-'
)

// A byteSet has a bit for each byte.
type byteSet [4]uint64

func (s *byteSet) add(b byte) { s[b/64] |= 1 << (b % 64) }

func (s *byteSet) addRange(one, other byte) {
	for b := int(min(one, other)); b <= int(max(one, other)); b++ {
		s.add(byte(b))
	}
}

func (s *byteSet) has(b byte) bool { return s[b/64]>>(b%64)&1 == 1 }

// turned gives the set of all bytes that are not in it.
func (s byteSet) turned() byteSet {
	for i := range s {
		s[i] = ^s[i]
	}
	return s
}

// A step stands for one of its bytes, or for many of them, also none.
type step struct {
	bytes byteSet
	many  bool
}

// stepsOf reads a pattern into its steps. Behind them stands one more, which
// stands for no byte: the pattern's end.
func stepsOf(pattern string) []step {
	steps := make([]step, 0, len(pattern)+1)
	for rest := pattern; rest != ""; {
		var s step
		s, rest = firstStep(rest)
		if last := len(steps) - 1; s.many && last >= 0 && steps[last].many {
			continue
		}
		steps = append(steps, s)
	}
	return append(steps, step{})
}

// firstStep gives a pattern's first step, and what is left of the pattern.
func firstStep(pattern string) (step, string) {
	switch pattern[0] {
	case star:
		return step{bytes: byteSet{}.turned(), many: true}, pattern[1:]
	case anyByte:
		return step{bytes: byteSet{}.turned()}, pattern[1:]
	case setBegin:
		set, rest := firstSet(pattern[1:])
		return step{bytes: set}, rest
	}
	var s step
	b, rest := firstByte(pattern)
	s.bytes.add(b)
	return s, rest
}

// firstSet gives the set that has begun, and what is left behind its end.
func firstSet(rest string) (byteSet, string) {
	over := rest != "" && rest[0] == turnOver
	if over {
		rest = rest[1:]
	}
	var set byteSet
	for rest != "" && rest[0] != setEnd {
		if isRange(rest) {
			set.addRange(rest[0], rest[2])
			rest = rest[3:]
			continue
		}
		var b byte
		b, rest = firstByte(rest)
		set.add(b)
	}
	if over {
		set = set.turned()
	}
	if rest != "" {
		rest = rest[1:]
	}
	return set, rest
}

// isRange tells whether a set's next member is a range. An escaped byte never
// begins one.
func isRange(members string) bool {
	return len(members) > 2 && members[0] != escape && members[1] == upTo
}

// firstByte gives the byte, escaped or not, with which a text begins, and what
// is left.
func firstByte(s string) (byte, string) {
	if s[0] == escape && len(s) > 1 {
		return s[1], s[2:]
	}
	return s[0], s[1:]
}
