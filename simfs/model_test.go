package simfs

import (
	"maps"
	"slices"
	"strings"

	"cistern/api"
)

// body is a file of the model.
type body struct {
	text string
	safe int
}

// failure is a planned one.
type failure struct{ step, part int }

// model is the chapter's words, plainly: all files that ever were, and all directories since the last SyncDir, whole.
type model struct {
	isDown bool
	count  int
	files  []body
	dirs   []map[string]int // the first one is safe, the last one is that of now; each has the files' places
	fails  []failure        // in the order in which they were planned
	crash  failure          // its step; 0: none
	picks  []int
}

func newModel() *model { return &model{dirs: []map[string]int{{}}} }

func (m *model) clone() *model {
	like := *m
	like.files = slices.Clone(m.files)
	like.dirs = nil
	for _, d := range m.dirs {
		like.dirs = append(like.dirs, maps.Clone(d))
	}
	like.fails, like.picks = slices.Clone(m.fails), slices.Clone(m.picks)
	return &like
}

func (m *model) here() map[string]int { return m.dirs[len(m.dirs)-1] }

const signs = "abcdefghijklmnopqrstuvwxyzABCDEFGHIJKLMNOPQRSTUVWXYZ0123456789.-_"

func modelName(s string) bool {
	for _, b := range []byte(s) {
		if strings.IndexByte(signs, b) < 0 {
			return false
		}
	}
	return 1 <= len(s) && len(s) <= 64 && s != "." && s != ".."
}

// refuse is what stands ahead of a step, or of Read: names first, then the file under the first of them, if there must be one.
func (m *model) refuse(must bool, names ...string) api.Errno {
	if m.isDown {
		return api.ErrCrash
	}
	for _, name := range names {
		if !modelName(name) {
			return api.ErrName
		}
	}
	if must {
		if _, ok := m.here()[names[0]]; !ok {
			return api.ErrFile
		}
	}
	return api.OK
}

// step counts a step; OK: it is to be done; ErrIO: with the part that was planned.
func (m *model) step() (int, api.Errno) {
	m.count++
	if m.crash.step == m.count {
		m.fall(m.picks)
		return 0, api.ErrCrash
	}
	for _, x := range slices.Backward(m.fails) {
		if x.step == m.count {
			return x.part, api.ErrIO
		}
	}
	return 0, api.OK
}

func (m *model) fall(picks []int) {
	all := append(slices.Clone(picks), make([]int, len(m.files)+1)...)
	for i := range all {
		all[i] = max(all[i], 0)
	}
	left := m.dirs[all[0]%len(m.dirs)]
	for i, x := range m.files {
		n := x.safe + all[i+1]%(len(x.text)-x.safe+1)
		m.files[i] = body{x.text[:n], n}
	}
	m.dirs = []map[string]int{left}
	m.fails, m.picks, m.crash = nil, nil, failure{}
	m.isDown = true
}

// turn makes a change of the directory now.
func (m *model) turn(change func(d map[string]int)) {
	d := maps.Clone(m.here())
	change(d)
	m.dirs = append(m.dirs, d)
}

func (m *model) Create(name string) api.Errno {
	if err := m.refuse(false, name); err != api.OK {
		return err
	}
	if _, ok := m.here()[name]; !ok && len(m.here()) == 64 {
		return api.ErrFull
	}
	_, err := m.step()
	if err == api.OK {
		m.files = append(m.files, body{})
		m.turn(func(d map[string]int) { d[name] = len(m.files) - 1 })
	}
	return err
}

func (m *model) Append(name string, data string) api.Errno {
	if err := m.refuse(true, name); err != api.OK {
		return err
	}
	x := m.here()[name]
	if len(m.files[x].text)+len(data) > 1<<30 {
		return api.ErrLong
	}
	part, err := m.step()
	switch err {
	case api.OK:
		m.files[x].text += data
	case api.ErrIO:
		m.files[x].text += data[:max(0, min(part, len(data)))]
	}
	return err
}

func (m *model) Sync(name string) api.Errno {
	if err := m.refuse(true, name); err != api.OK {
		return err
	}
	_, err := m.step()
	if err == api.OK {
		x := m.here()[name]
		m.files[x].safe = len(m.files[x].text)
	}
	return err
}

func (m *model) Rename(name string, to string) api.Errno {
	if err := m.refuse(true, name, to); err != api.OK {
		return err
	}
	_, err := m.step()
	if err == api.OK {
		m.turn(func(d map[string]int) {
			x := d[name]
			delete(d, name)
			d[to] = x
		})
	}
	return err
}

func (m *model) SyncDir() api.Errno {
	if err := m.refuse(false); err != api.OK {
		return err
	}
	_, err := m.step()
	if err == api.OK {
		m.dirs = m.dirs[len(m.dirs)-1:]
	}
	return err
}

func (m *model) Remove(name string) api.Errno {
	if err := m.refuse(true, name); err != api.OK {
		return err
	}
	_, err := m.step()
	if err == api.OK {
		m.turn(func(d map[string]int) { delete(d, name) })
	}
	return err
}

func (m *model) Read(name string) (string, api.Errno) {
	if err := m.refuse(true, name); err != api.OK {
		return "", err
	}
	return m.files[m.here()[name]].text, api.OK
}

func (m *model) List() ([]string, api.Errno) {
	if m.isDown {
		return nil, api.ErrCrash
	}
	return slices.Sorted(maps.Keys(m.here())), api.OK
}

func (m *model) Fail(n int, part int) api.Errno {
	switch {
	case m.isDown:
		return api.ErrCrash
	case n < 1 || n > 1<<40:
		return api.ErrArg
	}
	m.fails = append(m.fails, failure{m.count + n, part})
	return api.OK
}

func (m *model) Crash(n int, picks ...int) api.Errno {
	switch {
	case m.isDown:
		return api.ErrCrash
	case n < 0 || n > 1<<40:
		return api.ErrArg
	case n == 0:
		m.fall(picks)
		return api.OK
	}
	m.crash, m.picks = failure{step: m.count + n}, slices.Clone(picks)
	return api.OK
}

func (m *model) Start() api.Errno {
	if !m.isDown {
		return api.ErrArg
	}
	m.isDown = false
	return api.OK
}

func (m *model) Up() bool { return !m.isDown }

func (m *model) Steps() int { return m.count }

func (m *model) Now() []api.Pair {
	var list []api.Pair
	for _, name := range slices.Sorted(maps.Keys(m.here())) {
		list = append(list, api.Pair{Name: name, Value: m.files[m.here()[name]].text})
	}
	return list
}

func (m *model) Safe() []api.Pair {
	var list []api.Pair
	for _, name := range slices.Sorted(maps.Keys(m.dirs[0])) {
		x := m.files[m.dirs[0][name]]
		list = append(list, api.Pair{Name: name, Value: x.text[:x.safe]})
	}
	return list
}
