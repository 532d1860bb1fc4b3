package index_test

import (
	"iter"
	"math"
	"math/big"
	"slices"
	"testing"

	"bourse/api"
	"bourse/index"
)

// The tests hold every answer against a model that keeps its keys in a plain list and moves them by the chapter's words, place by place.

// mixer makes the same numbers in every run.
type mixer uint64

func (x *mixer) next() uint64 {
	*x += 0x9e3779b97f4a7c15
	n := uint64(*x)
	n = (n ^ n>>30) * 0xbf58476d1ce4e5b9
	n = (n ^ n>>27) * 0x94d049bb133111eb
	return n ^ n>>31
}

func (x *mixer) below(n int) int { return int(x.next() % uint64(n)) }

// odd are keys at the ends of all keys, and where signs and halves change.
var odd = []uint64{0, 1, 2, math.MaxUint32, 1 << 32, math.MaxInt64, 1 << 63, 1<<63 + 1, math.MaxUint64 - 1, math.MaxUint64}

// homeOf is a key's home by whole numbers that do not wrap.
func homeOf(key uint64, places int) int {
	n := new(big.Int).SetUint64(key)
	n.Mul(n, new(big.Int).SetUint64(0x9e3779b97f4a7c15))
	whole := new(big.Int).Lsh(big.NewInt(1), 64)
	n.Mod(n, whole)
	n.Div(n, whole.Div(whole, big.NewInt(int64(places))))
	return int(n.Int64())
}

// keyAt is a key with that home, the turn-th of many: what is put apart by turn lies in the lower bits of the product.
func keyAt(home, places int, turn uint64) uint64 {
	inverse := uint64(1)
	for range 6 {
		inverse *= 2 - 0x9e3779b97f4a7c15*inverse
	}
	return (uint64(home)*(math.MaxUint64/uint64(places)+1) + turn) * inverse
}

// pair is a key and its value.
type pair struct {
	key   uint64
	value string
}

// model is the places; nil where no key stands.
type model struct {
	room   int
	places []*pair
}

func modelOf(room int) *model {
	n := 1
	for n < 2*room {
		n *= 2
	}
	return &model{room: room, places: make([]*pair, n)}
}

// pairs are the keys and values, rising.
func (m *model) pairs() []pair {
	var l []pair
	for _, p := range m.places {
		if p != nil {
			l = append(l, *p)
		}
	}
	slices.SortFunc(l, func(a, b pair) int {
		if a.key < b.key {
			return -1
		}
		return 1
	})
	return l
}

// from are the places from one on, once around.
func (m *model) from(place int) []int {
	var l []int
	for i := range m.places {
		l = append(l, (place+i)%len(m.places))
	}
	return l
}

// at is where a key stands, or -1.
func (m *model) at(key uint64) int {
	return slices.IndexFunc(m.places, func(p *pair) bool { return p != nil && p.key == key })
}

func (m *model) put(key uint64, v string) api.Errno {
	if m.at(key) >= 0 {
		return api.ErrThere
	}
	if len(m.pairs()) == m.room {
		return api.ErrIndex
	}
	for _, i := range m.from(homeOf(key, len(m.places))) {
		if m.places[i] == nil {
			m.places[i] = &pair{key, v}
			break
		}
	}
	return api.OK
}

func (m *model) get(key uint64) (string, bool) {
	if i := m.at(key); i >= 0 {
		return m.places[i].value, true
	}
	return "", false
}

func (m *model) drop(key uint64) (string, bool) {
	old, there := m.get(key)
	if !there {
		return "", false
	}
	empty := m.at(key)
	m.places[empty] = nil
	for _, i := range m.from(empty)[1:] {
		if m.places[i] == nil {
			break
		}
		if !m.between(empty, homeOf(m.places[i].key, len(m.places)), i) {
			m.places[empty], m.places[i] = m.places[i], nil
			empty = i
		}
	}
	return old, true
}

// between tells whether one meets a home on the way from a place, without it, to another one, with it.
func (m *model) between(from, home, to int) bool {
	for i := from; i != to; {
		i = (i + 1) % len(m.places)
		if i == home {
			return true
		}
	}
	return false
}

func (m *model) slots() []api.Slot {
	var l []api.Slot
	for _, p := range m.places {
		if p == nil {
			l = append(l, api.Slot{})
		} else {
			l = append(l, api.Slot{Used: true, Key: p.key})
		}
	}
	return l
}

// found is an answer and whether there is one.
type found struct {
	it string
	ok bool
}

func got(it string, ok bool) found { return found{it, ok} }

func same[T comparable](t *testing.T, what string, a, b T) {
	t.Helper()
	if a != b {
		t.Fatalf("%s: got %v, wanted %v", what, a, b)
	}
}

func sameList[T comparable](t *testing.T, what string, a, b []T) {
	t.Helper()
	if !slices.Equal(a, b) {
		t.Fatalf("%s: got %v, wanted %v", what, a, b)
	}
}

func pairsOf(seq iter.Seq2[uint64, string]) []pair {
	var l []pair
	for key, v := range seq {
		l = append(l, pair{key, v})
	}
	return l
}

// made is an index with room for so many keys.
func made(t *testing.T, room int) *index.Index[string] {
	t.Helper()
	x, why := index.New[string](room)
	if x == nil || why != api.OK {
		t.Fatalf("New(%d): %v", room, why)
	}
	return x
}

// of is an index with these keys, put in in this order, each with a value of its own.
func of(t *testing.T, room int, keys ...uint64) *index.Index[string] {
	t.Helper()
	x := made(t, room)
	for _, key := range keys {
		same(t, "Put", x.Put(key, name(key)), api.OK)
	}
	return x
}

func name(key uint64) string { return string(rune('a' + key&15)) }

// standing is the table: "-" where no key stands, and a key's name elsewhere.
func standing(x *index.Index[string]) string {
	s := ""
	for _, slot := range x.Slots() {
		if slot.Used {
			s += name(slot.Key)
		} else {
			s += "-"
		}
	}
	return s
}

// used are the places where keys stand.
func used(x *index.Index[string]) []bool {
	var l []bool
	for _, slot := range x.Slots() {
		l = append(l, slot.Used)
	}
	return l
}

// whole holds the table against itself: no gap between a key's home and its place, no key twice, as many as there are.
func whole(t *testing.T, x *index.Index[string]) {
	t.Helper()
	slots := x.Slots()
	var seen []uint64
	for i, slot := range slots {
		if !slot.Used {
			same(t, "Key of an empty place", slot.Key, 0)
			continue
		}
		seen = append(seen, slot.Key)
		for j := homeOf(slot.Key, len(slots)); j != i; j = (j + 1) % len(slots) {
			if !slots[j].Used {
				t.Fatalf("the key %d stands in %d, and %d is empty", slot.Key, i, j)
			}
		}
	}
	same(t, "used places", len(seen), x.Len())
	slices.Sort(seen)
	same(t, "keys that differ", len(slices.Compact(seen)), x.Len())
}

// looked holds all that can be seen against the model.
func looked(t *testing.T, x *index.Index[string], want *model, keys []uint64) {
	t.Helper()
	l := want.pairs()
	same(t, "Len", x.Len(), len(l))
	same(t, "Room", x.Room(), want.room)
	sameList(t, "Slots", x.Slots(), want.slots())
	sameList(t, "All", pairsOf(x.All()), l)
	for _, key := range keys {
		same(t, "Get", got(x.Get(key)), got(want.get(key)))
		same(t, "Home", x.Home(key), homeOf(key, len(want.places)))
	}
	whole(t, x)
}

// turn makes one call on both: more is put than dropped, so that the table is often full.
func turn(t *testing.T, mix *mixer, x *index.Index[string], want *model, key uint64, step int) {
	t.Helper()
	switch kind := mix.below(60); {
	case kind == 0:
		x.Clear()
		clear(want.places)
	case kind < 36:
		v := name(uint64(step))
		same(t, "Put", x.Put(key, v), want.put(key, v))
	default:
		same(t, "Drop", got(x.Drop(key)), got(want.drop(key)))
	}
}

// ordersOf is each order of the numbers below n.
func ordersOf(n int) [][]int {
	if n == 0 {
		return [][]int{nil}
	}
	var all [][]int
	for _, l := range ordersOf(n - 1) {
		for i := range n {
			all = append(all, slices.Insert(slices.Clone(l), i, n-1))
		}
	}
	return all
}

func shuffled(mix *mixer, keys []uint64) []uint64 {
	l := slices.Clone(keys)
	for i := range l {
		j := i + mix.below(len(l)-i)
		l[i], l[j] = l[j], l[i]
	}
	return l
}
