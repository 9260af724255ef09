package keyspace

import (
	"math/big"
	"slices"
	"strconv"

	"cistern/api"
	"cistern/dict"
	"cistern/value"
)

// known is a key of the model, with all that the chapter knows of it.
type known struct {
	db     int
	key    string
	v      *value.Value
	expiry int
	mark   int
	use    int
}

// model does what the chapter's words say, one by one, on one plain list of all keys.
type model struct {
	c     api.Config
	now   int
	mark  int
	use   int
	x     *big.Int
	list  []*known
	dicts []*dict.Dict[int]
}

func newModel(c api.Config) *model {
	m := &model{c: c, x: big.NewInt(1)}
	for range c.Spaces {
		m.dicts = append(m.dicts, dict.New[int](0))
	}
	return m
}

func mayBe(c api.Config) bool {
	if c.Spaces < 1 || c.Spaces > api.MaxSpaces {
		return false
	}
	if c.Memory < 0 || c.Policy < api.PolicyNone || c.Policy > api.PolicySoonest {
		return false
	}
	return c.Keep >= 0 && c.Keep <= api.MaxKeep && value.Check(c.Limits) == api.OK
}

func (m *model) none(db int) bool { return db < 0 || db >= m.c.Spaces }

func (m *model) find(db int, key string) *known {
	for _, k := range m.list {
		if k.db == db && k.key == key {
			return k
		}
	}
	return nil
}

func (m *model) of(db int) []string {
	var keys []string
	for _, k := range m.list {
		if k.db == db {
			keys = append(keys, k.key)
		}
	}
	slices.Sort(keys)
	return keys
}

func (m *model) goes(k *known) {
	m.dicts[k.db].Delete(k.key)
	m.list = slices.DeleteFunc(m.list, func(o *known) bool { return o == k })
}

func (m *model) comes(db int, key string, v *value.Value, expiry int) {
	m.dicts[db].Set(key, 0)
	m.list = slices.DeleteFunc(m.list, func(o *known) bool { return o.db == db && o.key == key })
	k := &known{db: db, key: key, v: v, expiry: expiry}
	m.list = append(m.list, k)
	m.changed(k)
	m.used(k)
}

func (m *model) changed(k *known) {
	m.mark++
	k.mark = m.mark
}

func (m *model) used(k *known) {
	m.use++
	k.use = m.use
}

func (m *model) Config() api.Config { return m.c }

func (m *model) Adjust(c api.Config) api.Errno {
	if !mayBe(c) || c.Spaces != m.c.Spaces {
		return api.ErrArg
	}
	m.c = c
	return api.OK
}

func (m *model) clone() *model {
	like := *m
	like.x = new(big.Int).Set(m.x)
	like.list, like.dicts = nil, nil
	for _, k := range m.list {
		o := *k
		o.v = k.v.Clone()
		like.list = append(like.list, &o)
	}
	for _, d := range m.dicts {
		like.dicts = append(like.dicts, d.Clone())
	}
	return &like
}

func (m *model) Now() int { return m.now }

func (m *model) Advance(n int) (int, api.Errno) {
	if n < 0 || n > api.MaxNumber || m.now+n > api.MaxNumber {
		return 0, api.ErrArg
	}
	m.now += n
	gone := 0
	for db := range m.c.Spaces {
		for _, key := range m.of(db) {
			if k := m.find(db, key); k.expiry >= 0 && k.expiry <= m.now {
				m.goes(k)
				gone++
			}
		}
	}
	return gone, api.OK
}

func (m *model) Get(db int, key string) (*value.Value, bool) {
	k := m.find(db, key)
	if k == nil {
		return nil, false
	}
	m.used(k)
	return k.v, true
}

func (m *model) Peek(db int, key string) (*value.Value, bool) {
	if k := m.find(db, key); k != nil {
		return k.v, true
	}
	return nil, false
}

func hollow(v *value.Value) bool {
	switch v.Kind() {
	case api.KindList, api.KindSet, api.KindZset, api.KindHash:
		return v.Len() == 0
	}
	return false
}

func (m *model) Put(db int, key string, v *value.Value) api.Errno {
	if m.none(db) || v == nil || hollow(v) {
		return api.ErrArg
	}
	if len(key) > api.MaxKey {
		return api.ErrLong
	}
	if m.find(db, key) == nil && len(m.list) == api.MaxKeys {
		return api.ErrFull
	}
	m.comes(db, key, v, -1)
	return api.OK
}

func (m *model) Changed(db int, key string) bool {
	k := m.find(db, key)
	if k == nil {
		return false
	}
	if hollow(k.v) {
		m.goes(k)
	} else {
		m.changed(k)
	}
	return true
}

func (m *model) Drop(db int, key string) bool {
	k := m.find(db, key)
	if k == nil {
		return false
	}
	m.goes(k)
	return true
}

func (m *model) Expiry(db int, key string) (int, bool) {
	if k := m.find(db, key); k != nil {
		return k.expiry, true
	}
	return 0, false
}

func (m *model) Expire(db int, key string, at int) bool {
	k := m.find(db, key)
	if k == nil {
		return false
	}
	if at > api.MaxNumber {
		at = api.MaxNumber
	}
	if at <= m.now {
		m.goes(k)
		return true
	}
	k.expiry = at
	m.changed(k)
	return true
}

func (m *model) Persist(db int, key string) bool {
	k := m.find(db, key)
	if k == nil || k.expiry < 0 {
		return false
	}
	k.expiry = -1
	m.changed(k)
	return true
}

func (m *model) Rename(db int, key, to string) api.Errno {
	if m.none(db) {
		return api.ErrArg
	}
	if len(to) > api.MaxKey {
		return api.ErrLong
	}
	k := m.find(db, key)
	if k == nil {
		return api.ErrNone
	}
	if to == key {
		return api.OK
	}
	if o := m.find(db, to); o != nil {
		m.goes(o)
	}
	m.goes(k)
	m.comes(db, to, k.v, k.expiry)
	return api.OK
}

func (m *model) Move(db int, key string, to int) api.Errno {
	if m.none(db) || m.none(to) || db == to {
		return api.ErrArg
	}
	k := m.find(db, key)
	if k == nil {
		return api.ErrNone
	}
	if m.find(to, key) != nil {
		return api.ErrFull
	}
	m.goes(k)
	m.comes(to, key, k.v, k.expiry)
	return api.OK
}

func (m *model) Swap(a, b int) api.Errno {
	if m.none(a) || m.none(b) {
		return api.ErrArg
	}
	if a == b {
		return api.OK
	}
	for _, k := range m.list {
		switch k.db {
		case a:
			k.db = b
		case b:
			k.db = a
		}
	}
	m.dicts[a], m.dicts[b] = m.dicts[b], m.dicts[a]
	for _, db := range []int{a, b} {
		for _, key := range m.of(db) {
			m.changed(m.find(db, key))
		}
	}
	return api.OK
}

func (m *model) Flush(db int) int {
	if db >= m.c.Spaces {
		return 0
	}
	before := len(m.list)
	m.list = slices.DeleteFunc(m.list, func(k *known) bool { return db < 0 || k.db == db })
	for i := range m.dicts {
		if db < 0 || db == i {
			m.dicts[i] = dict.New[int](0)
		}
	}
	return before - len(m.list)
}

func (m *model) Len(db int) int {
	if db < 0 {
		return len(m.list)
	}
	return len(m.of(db))
}

func (m *model) Keys(db int) []string { return m.of(db) }

func (m *model) Scan(db, cursor, n int) ([]string, int) {
	if m.none(db) {
		return nil, 0
	}
	return m.dicts[db].Scan(cursor, n)
}

func (m *model) Pick(db, n int) (string, bool) {
	keys := m.of(db)
	if len(keys) == 0 {
		return "", false
	}
	if n < 0 {
		n = 0
	}
	return keys[n%len(keys)], true
}

func (m *model) Mark(db int, key string) int {
	if k := m.find(db, key); k != nil {
		return k.mark
	}
	return 0
}

func (m *model) Idle(db int, key string) int {
	if k := m.find(db, key); k != nil {
		return m.use - k.use
	}
	return -1
}

func (m *model) Random(n int) int {
	if n < 1 {
		return 0
	}
	a, _ := new(big.Int).SetString("6364136223846793005", 10)
	b, _ := new(big.Int).SetString("1442695040888963407", 10)
	whole := new(big.Int).Lsh(big.NewInt(1), 64)
	m.x.Mod(m.x.Add(m.x.Mul(m.x, a), b), whole)
	high := new(big.Int).Rsh(m.x, 33)
	return int(high.Mod(high, big.NewInt(int64(n))).Int64())
}

func (m *model) Used() int {
	sum := 0
	for _, k := range m.list {
		sum += len(k.key) + k.v.Size() + 64
		if k.expiry != -1 {
			sum += 16
		}
	}
	return sum
}

// first tells whether a is given up ahead of b.
func (m *model) first(a, b *known) bool {
	if m.c.Policy == api.PolicySoonest && a.expiry != b.expiry {
		return a.expiry < b.expiry
	}
	return a.use < b.use
}

func (m *model) Spare(need int) ([]string, api.Errno) {
	var names []string
	if m.c.Memory == 0 {
		return nil, api.OK
	}
	for !m.fits(need) {
		var least *known
		for _, k := range m.list {
			sort := m.c.Policy == api.PolicyOldest || m.c.Policy != api.PolicyNone && k.expiry != -1
			if sort && (least == nil || m.first(k, least)) {
				least = k
			}
		}
		if least == nil {
			return names, api.ErrFull
		}
		m.goes(least)
		names = append(names, strconv.Itoa(least.db)+":"+least.key)
	}
	return names, api.OK
}

func (m *model) fits(need int) bool {
	sum := big.NewInt(int64(m.Used()))
	if need > 0 {
		sum.Add(sum, big.NewInt(int64(need)))
	}
	return sum.Cmp(big.NewInt(int64(m.c.Memory))) <= 0
}
