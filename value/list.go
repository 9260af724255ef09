package value

import (
	"slices"

	"cistern/api"
	"cistern/quicklist"
)

// compared is how many entries of two lists are laid down at a time to be compared.
const compared = 1024

// list is a list's body.
type list struct {
	entries *quicklist.List
	weight  int // bytes of all entries
}

func newList(th api.Thresholds) *list {
	entries, _ := quicklist.New(th.ListEntries, th.ListBytes)
	return &list{entries: entries}
}

func (l *list) encoding() string {
	if len(l.raw()) > 1 {
		return "quicklist"
	}
	return "listpack"
}

func (l *list) raw() []string { return l.entries.Nodes() }
func (l *list) count() int    { return l.entries.Len() }
func (l *list) bytes() int    { return l.weight }
func (l *list) clone() body   { return &list{entries: l.entries.Clone(), weight: l.weight} }

// holdsSame tells whether a list of as many entries has the same ones.
func (l *list) holdsSame(other *list) bool {
	for i := 0; i < l.count(); i += compared {
		if !slices.Equal(l.part(i, compared), other.part(i, compared)) {
			return false
		}
	}
	return true
}

// part gives n entries from entry i on, as many as there are; neither is below 0.
func (l *list) part(i, n int) []string {
	i = min(i, l.count())
	return l.entries.Range(i, i+min(n, l.count()-i)-1)
}

// take takes n entries out from entry i on, as many as there are.
func (l *list) take(i, n int) []string {
	taken := l.part(i, n)
	l.entries.Delete(i, len(taken))
	l.weight -= weigh(taken...)
	return taken
}

// hasRoom tells whether entries may join.
func (l *list) hasRoom(entries ...string) bool {
	return !anyLong(entries...) && l.count()+len(entries) <= api.MaxCount
}

// weigh is how many bytes texts have together.
func weigh(texts ...string) int {
	weight := 0
	for _, s := range texts {
		weight += len(s)
	}
	return weight
}

func (v *Value) asList() (*list, api.Errno) {
	if l, ok := v.body.(*list); ok {
		return l, api.OK
	}
	return nil, api.ErrKind
}

// Push lets entries join at an end of a list.
func (v *Value) Push(front bool, entries ...string) api.Errno {
	l, err := v.asList()
	if err != api.OK {
		return err
	}
	if !l.hasRoom(entries...) {
		return api.ErrLong
	}
	for _, entry := range entries {
		l.entries.Push(entry, front)
	}
	l.weight += weigh(entries...)
	return api.OK
}

// Pop takes entries out at an end of a list.
func (v *Value) Pop(front bool, n int) ([]string, api.Errno) {
	l, err := v.asList()
	if err != api.OK {
		return nil, err
	}
	if n < 0 {
		return nil, api.ErrArg
	}
	if front {
		return l.take(0, n), api.OK
	}
	taken := l.take(max(l.count()-n, 0), n)
	slices.Reverse(taken)
	return taken, api.OK
}

// At gives an entry of a list.
func (v *Value) At(i int) (string, api.Errno) {
	l, err := v.asList()
	if err != api.OK {
		return "", err
	}
	entry, ok := l.entries.At(i)
	if !ok {
		return "", api.ErrNone
	}
	return entry, api.OK
}

// SetAt exchanges an entry of a list.
func (v *Value) SetAt(i int, entry string) api.Errno {
	l, err := v.asList()
	if err != api.OK {
		return err
	}
	old, ok := l.entries.At(i)
	if !ok {
		return api.ErrNone
	}
	if isLong(entry) {
		return api.ErrLong
	}
	l.entries.Set(i, entry)
	l.weight += len(entry) - len(old)
	return api.OK
}

// Insert puts an entry into a list.
func (v *Value) Insert(i int, entry string) api.Errno {
	l, err := v.asList()
	if err != api.OK {
		return err
	}
	if i < 0 || i > l.count() {
		return api.ErrArg
	}
	if !l.hasRoom(entry) {
		return api.ErrLong
	}
	l.entries.Insert(i, entry)
	l.weight += len(entry)
	return api.OK
}

// Remove takes entries out of a list.
func (v *Value) Remove(i int, n int) api.Errno {
	l, err := v.asList()
	if err != api.OK {
		return err
	}
	if i < 0 || n < 0 {
		return api.ErrArg
	}
	l.take(i, n)
	return api.OK
}

// Range gives entries of a list.
func (v *Value) Range(i int, n int) ([]string, api.Errno) {
	l, err := v.asList()
	if err != api.OK {
		return nil, err
	}
	if i < 0 || n < 0 {
		return nil, api.ErrArg
	}
	return l.part(i, n), api.OK
}
