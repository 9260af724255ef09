package dict

import (
	"fmt"
	"math"
	"math/big"
	"slices"
	"strings"
	"testing"
)

// dicter is what a dict and its model answer alike.
type dicter[V any] interface {
	Set(key string, v V) bool
	Get(key string) (V, bool)
	Delete(key string) bool
	Len() int
	Keys() []string
	Step(n int)
	Tables() (int, int, int)
	Scan(cursor int, n int) ([]string, int)
}

// hashByWords is the hash as the chapter says it, in numbers of any size.
func hashByWords(seed int, s string) int {
	modulus := new(big.Int).Lsh(big.NewInt(1), 64)
	number := func(digits string) *big.Int {
		n, ok := new(big.Int).SetString(digits, 10)
		if !ok {
			panic(digits)
		}
		return n
	}
	h := number("14695981039346656037")
	h.Xor(h, new(big.Int).Mod(big.NewInt(int64(seed)), modulus))
	for _, b := range []byte(s) {
		h.Xor(h, big.NewInt(int64(b)))
		h.Mod(h.Mul(h, number("1099511628211")), modulus)
	}
	h.Xor(h, new(big.Int).Rsh(h, 32))
	h.Mod(h.Mul(h, number("11400714819323198485")), modulus)
	h.Xor(h, new(big.Int).Rsh(h, 29))
	return int(h.Rsh(h, 1).Int64())
}

// nextByWords is the cursor behind c in b bits: its low bits written down, turned round, counted on and turned back.
func nextByWords(c, b int) int {
	written := []byte(fmt.Sprintf("%064b", uint64(c))[64-b:])
	slices.Reverse(written)
	turned, _ := new(big.Int).SetString(string(written), 2)
	turned.Mod(turned.Add(turned, big.NewInt(1)), new(big.Int).Lsh(big.NewInt(1), uint(b)))
	written = []byte(fmt.Sprintf("%0*s", b, turned.Text(2)))
	slices.Reverse(written)
	n, _ := new(big.Int).SetString(string(written), 2)
	return int(n.Int64())
}

// plain is one table of the model: a size, and keys with their values and hashes.
type plain[V any] struct {
	size   int
	values map[string]V
	hashes map[string]int
}

func (p *plain[V]) bucket(i int) []string {
	var keys []string
	for key, hash := range p.hashes {
		if hash%p.size == i {
			keys = append(keys, key)
		}
	}
	slices.Sort(keys)
	return keys
}

func (p *plain[V]) put(key string, hash int, v V) {
	p.values[key], p.hashes[key] = v, hash
}

func (p *plain[V]) bits() int { return int(math.Log2(float64(p.size))) }

func newPlain[V any](size int) *plain[V] {
	return &plain[V]{size, map[string]V{}, map[string]int{}}
}

// model is a dict by the chapter's words alone.
type model[V any] struct {
	seed          int
	first, second *plain[V]
	index         int
}

func newModel[V any](seed int) *model[V] {
	return &model[V]{seed, newPlain[V](0), newPlain[V](0), 0}
}

func (m *model[V]) begin(size int) {
	m.second, m.index = newPlain[V](size), 0
	m.end()
}

func (m *model[V]) end() {
	if m.second.size != 0 && len(m.first.values) == 0 {
		m.first, m.second = m.second, newPlain[V](0)
	}
}

func (m *model[V]) step() {
	if m.second.size == 0 {
		return
	}
	for i := m.index; i < m.first.size; i++ {
		keys := m.first.bucket(i)
		for _, key := range keys {
			m.second.put(key, m.first.hashes[key], m.first.values[key])
			m.first.remove(key)
		}
		if len(keys) > 0 {
			m.index = i + 1
			break
		}
	}
	m.end()
}

func (p *plain[V]) remove(key string) bool {
	_, ok := p.values[key]
	delete(p.values, key)
	delete(p.hashes, key)
	return ok
}

func (m *model[V]) Set(key string, v V) bool {
	m.step()
	for _, p := range []*plain[V]{m.first, m.second} {
		if hash, ok := p.hashes[key]; ok {
			p.put(key, hash, v)
			return false
		}
	}
	if m.first.size == 0 {
		m.first = newPlain[V](4)
	} else if m.second.size == 0 && len(m.first.values) >= m.first.size {
		m.begin(m.first.size * 2)
	}
	joined := m.first
	if m.second.size != 0 {
		joined = m.second
	}
	joined.put(key, hashByWords(m.seed, key), v)
	return true
}

func (m *model[V]) Get(key string) (V, bool) {
	if v, ok := m.first.values[key]; ok {
		return v, true
	}
	v, ok := m.second.values[key]
	return v, ok
}

func (m *model[V]) Delete(key string) bool {
	m.step()
	if !m.first.remove(key) && !m.second.remove(key) {
		return false
	}
	m.end()
	if count := len(m.first.values); m.second.size == 0 && m.first.size > 4 && 8*count <= m.first.size {
		size := 4
		for size < count {
			size *= 2
		}
		m.begin(size)
	}
	return true
}

func (m *model[V]) Len() int { return len(m.first.values) + len(m.second.values) }

func (m *model[V]) Keys() []string {
	var keys []string
	for _, p := range []*plain[V]{m.first, m.second} {
		for key := range p.values {
			keys = append(keys, key)
		}
	}
	slices.Sort(keys)
	return keys
}

func (m *model[V]) Step(n int) {
	for i := 0; i < min(n, 1000); i++ {
		m.step()
	}
}

func (m *model[V]) Tables() (int, int, int) {
	if m.second.size == 0 {
		return m.first.size, 0, -1
	}
	return m.first.size, m.second.size, m.index
}

func (m *model[V]) visit(c int) ([]string, int) {
	if m.second.size == 0 {
		return m.first.bucket(c % m.first.size), nextByWords(c, m.first.bits())
	}
	small, large := m.first, m.second
	if small.size > large.size {
		small, large = large, small
	}
	keys := small.bucket(c % small.size)
	for {
		keys = append(keys, large.bucket(c%large.size)...)
		c = nextByWords(c, large.bits())
		written := fmt.Sprintf("%064b", c)
		if !strings.Contains(written[64-large.bits():64-small.bits()], "1") {
			return keys, c
		}
	}
}

func (m *model[V]) Scan(cursor int, n int) ([]string, int) {
	if m.first.size == 0 {
		return nil, 0
	}
	if cursor < 0 {
		cursor = 0
	}
	if n < 1 {
		n = 1
	}
	var met []string
	for {
		keys, c := m.visit(cursor)
		met, cursor = append(met, keys...), c
		if len(met) >= n || cursor == 0 {
			return met, cursor
		}
	}
}

// mix is a row of numbers that is the same at each run.
type mix uint64

func (m *mix) below(n int) int {
	x := uint64(*m)
	x ^= x << 13
	x ^= x >> 7
	x ^= x << 17
	*m = mix(x)
	return int(x >> 11 % uint64(n))
}

// sound fails if a dict's tables are not as the chapter's words say that they are.
func sound[V any](t *testing.T, d *Dict[V]) {
	t.Helper()
	for number, tab := range []*table[V]{&d.first, &d.second} {
		if size := tab.size(); size != 0 && (size < 4 || size&(size-1) != 0) {
			t.Fatalf("table %d has the size %d", number, size)
		}
		count := 0
		for i, b := range tab.buckets {
			count += len(b)
			for k, e := range b {
				if Hash(d.seed, e.key)%tab.size() != i || k > 0 && b[k-1].key >= e.key {
					t.Fatalf("table %d of %d, bucket %d: %v", number, tab.size(), i, b)
				}
			}
		}
		if count != tab.count {
			t.Fatalf("table %d: %d keys, it tells %d", number, count, tab.count)
		}
	}
	if d.second.size() == 0 {
		return
	}
	if d.first.count == 0 {
		t.Fatalf("a move goes on without a key in the first table")
	}
	for i := range d.index {
		if len(d.first.buckets[i]) > 0 {
			t.Fatalf("index %d, but bucket %d has %v", d.index, i, d.first.buckets[i])
		}
	}
}

// measure watches that a dict keeps its measure (P8.10).
type measure struct {
	size, to, index int
	calls           int // since the move under way began
}

// called is told of each Set, Delete and Step by one that was made.
func (m *measure) called(t *testing.T, keys, size, to, index int) {
	t.Helper()
	if index < 0 && keys > 2*size {
		t.Fatalf("%d keys in %d buckets", keys, size)
	}
	if m.to > 0 {
		m.calls++
	}
	goesOn := m.to > 0 && size == m.size && to == m.to && index >= m.index
	if goesOn && m.calls >= size || !goesOn && m.calls > m.size {
		t.Fatalf("a move from %d to %d buckets takes more than %d calls", m.size, m.to, m.size)
	}
	if !goesOn {
		m.calls = 0
	}
	m.size, m.to, m.index = size, to, index
}

// pair is a dict beside its model, both of which are asked alike.
type pair[V any] struct {
	t    *testing.T
	d    *Dict[V]
	m    *model[V]
	same func(V, V) bool
	measure
}

func newPair[V any](t *testing.T, seed int, same func(V, V) bool) *pair[V] {
	return &pair[V]{t: t, d: New[V](seed), m: newModel[V](seed), same: same}
}

// did holds the tables against each other, and what was answered.
func (p *pair[V]) did(what string, got, want bool) {
	p.t.Helper()
	sound(p.t, p.d)
	size, to, index := p.d.Tables()
	a, b, c := p.m.Tables()
	if got != want || size != a || to != b || index != c || p.d.Len() != p.m.Len() {
		p.t.Fatalf("%s = %v; tables %d %d %d, %d keys; want %v; %d %d %d, %d", what, got, size, to, index, p.d.Len(), want, a, b, c, p.m.Len())
	}
	p.called(p.t, p.d.Len(), size, to, index)
}

func (p *pair[V]) set(key string, v V) {
	p.t.Helper()
	p.did(fmt.Sprintf("Set(%q)", key), p.d.Set(key, v), p.m.Set(key, v))
}

func (p *pair[V]) delete(key string) {
	p.t.Helper()
	p.did(fmt.Sprintf("Delete(%q)", key), p.d.Delete(key), p.m.Delete(key))
}

func (p *pair[V]) step() {
	p.t.Helper()
	p.d.Step(1)
	p.m.Step(1)
	p.did("Step(1)", true, true)
}

// look holds all that can be asked without a change against each other.
func (p *pair[V]) look(more ...string) {
	p.t.Helper()
	p.tables(p.m.Tables())
	keys := p.m.Keys()
	if got := p.d.Keys(); !slices.Equal(got, keys) {
		p.t.Fatalf("Keys = %q; want %q", got, keys)
	}
	for _, key := range append(more, keys...) {
		got, is := p.d.Get(key)
		want, was := p.m.Get(key)
		if is != was || !p.same(got, want) {
			p.t.Fatalf("Get(%q) = %v, %v; want %v, %v", key, got, is, want, was)
		}
	}
	size, to, _ := p.d.Tables()
	for cursor := -2; cursor < 2*max(size, to)+2; cursor++ {
		p.scan(cursor, 1)
	}
	for _, cursor := range []int{math.MinInt, 0, 3, size - 1, to - 1, max(size, to) + 1, 1 << 40, math.MaxInt - 1, math.MaxInt} {
		for _, n := range []int{math.MinInt, -1, 0, 2, 3, len(keys) - 1, len(keys), len(keys) + 1, math.MaxInt} {
			p.scan(cursor, n)
		}
	}
}

func (p *pair[V]) scan(cursor, n int) {
	p.t.Helper()
	got, next := p.d.Scan(cursor, n)
	want, then := p.m.Scan(cursor, n)
	if !slices.Equal(got, want) || next != then {
		a, b, c := p.d.Tables()
		p.t.Fatalf("Scan(%d, %d) of tables %d %d %d = %q, %d; want %q, %d", cursor, n, a, b, c, got, next, want, then)
	}
}

// tables fails if the sizes and the index are others than these.
func (p *pair[V]) tables(size, to, index int) {
	p.t.Helper()
	if a, b, c := p.d.Tables(); a != size || b != to || c != index {
		p.t.Errorf("Tables() = %d, %d, %d; want %d, %d, %d", a, b, c, size, to, index)
	}
}

// keysIn gives texts whose hashes lie in one bucket of a table of a size.
func keysIn(seed, size, bucket, count int) []string {
	var keys []string
	for i := 0; len(keys) < count; i++ {
		if key := fmt.Sprintf("k%d", i); Hash(seed, key)%size == bucket {
			keys = append(keys, key)
		}
	}
	return keys
}
