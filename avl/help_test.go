package avl_test

import (
	"iter"
	"math"
	"slices"
	"testing"

	"bourse/avl"
)

// The tests hold every answer against a model that keeps keys and values in a plain sorted list, as the chapter's words have them.

// mixer makes the same numbers in every run.
type mixer uint64

func (x *mixer) next() uint64 {
	*x += 0x9e3779b97f4a7c15
	n := uint64(*x)
	n = (n ^ n>>30) * 0xbf58476d1ce4e5b9
	n = (n ^ n>>27) * 0x94d049bb133111eb
	return n ^ n>>31
}

func (x *mixer) below(n int) int { return int(x.next() % uint64(n)) }

// odd are numbers at the ends of all numbers, and around 0.
var odd = []int{math.MinInt, math.MinInt + 1, math.MinInt32, -2, -1, 0, 1, 2, math.MaxInt32, math.MaxInt - 1, math.MaxInt}

// pair is a key and its value.
type pair struct {
	key   int
	value string
}

// model is the pairs of a map, their keys rising.
type model []pair

func (m model) find(key int) (int, bool) {
	return slices.BinarySearchFunc(m, key, func(p pair, key int) int {
		switch {
		case p.key < key:
			return -1
		case p.key > key:
			return 1
		}
		return 0
	})
}

func (m *model) put(key int, v string) (string, bool) {
	i, there := m.find(key)
	if !there {
		*m = slices.Insert(*m, i, pair{key, v})
		return "", false
	}
	old := (*m)[i].value
	(*m)[i].value = v
	return old, true
}

func (m model) get(key int) (string, bool) {
	i, there := m.find(key)
	if !there {
		return "", false
	}
	return m[i].value, true
}

func (m *model) drop(key int) (string, bool) {
	old, there := m.get(key)
	if there {
		i, _ := m.find(key)
		*m = slices.Delete(*m, i, i+1)
	}
	return old, there
}

func (m model) at(rank int) (int, bool) {
	if rank < 0 || rank >= len(m) {
		return 0, false
	}
	return m[rank].key, true
}

func (m model) rank(key int) int {
	i, _ := m.find(key)
	return i
}

func (m model) below(key int) (int, bool) { return m.at(m.rank(key) - 1) }

func (m model) above(key int) (int, bool) {
	i, there := m.find(key)
	if there {
		i++
	}
	return m.at(i)
}

func (m model) backward() model {
	l := slices.Clone(m)
	slices.Reverse(l)
	return l
}

// found is an answer and whether there is one.
type found[T any] struct {
	it T
	ok bool
}

func got[T any](it T, ok bool) found[T] { return found[T]{it, ok} }

func same[T comparable](t *testing.T, what string, a, b T) {
	t.Helper()
	if a != b {
		t.Fatalf("%s: got %v, wanted %v", what, a, b)
	}
}

func pairs(seq iter.Seq2[int, string]) model {
	var l model
	for key, v := range seq {
		l = append(l, pair{key, v})
	}
	return l
}

func sameAll(t *testing.T, what string, seq iter.Seq2[int, string], want model) {
	t.Helper()
	if l := pairs(seq); !slices.Equal(l, want) {
		t.Fatalf("%s: got %v, wanted %v", what, l, want)
	}
}

// until goes through the first n alone.
func until(seq iter.Seq2[int, string], n int) iter.Seq2[int, string] {
	return func(yield func(int, string) bool) {
		seen := 0
		seq(func(key int, v string) bool {
			seen++
			return yield(key, v) && seen < n
		})
	}
}

// of is a tree with these keys, put in in this order, each with a value of its own, and its model.
func of(keys ...int) (*avl.Tree[string], model) {
	var tree avl.Tree[string]
	var want model
	for _, key := range keys {
		tree.Put(key, name(key))
		want.put(key, name(key))
	}
	return &tree, want
}

func name(key int) string { return string(rune('a' + key&15)) }

// flat holds the height against what a tree of that kind can have.
func flat[V any](t *testing.T, tree *avl.Tree[V]) {
	t.Helper()
	h, n := tree.Height(), tree.Len()
	if h < 0 || h > 62 || n >= 1<<h || n < fewest(h) {
		t.Fatalf("Height %d of %d keys: fewest are %d", h, n, fewest(h))
	}
}

// fewest is the chapter's F.
func fewest(h int) int {
	now, next := 0, 1
	for range h {
		now, next = next, now+next+1
	}
	return now
}

// looked holds all that can be seen against the model.
func looked(t *testing.T, tree *avl.Tree[string], want model, x *mixer) {
	t.Helper()
	flat(t, tree)
	same(t, "Len", tree.Len(), len(want))
	same(t, "Min", got(tree.Min()), got(want.at(0)))
	same(t, "Max", got(tree.Max()), got(want.at(len(want)-1)))
	for _, n := range want.near(x) {
		same(t, "Get", got(tree.Get(n)), got(want.get(n)))
		same(t, "Below", got(tree.Below(n)), got(want.below(n)))
		same(t, "Above", got(tree.Above(n)), got(want.above(n)))
		same(t, "Rank", tree.Rank(n), want.rank(n))
		same(t, "At", got(tree.At(n)), got(want.at(n)))
	}
	for _, rank := range []int{len(want) - 1, len(want), len(want) + 1, x.below(len(want) + 1)} {
		same(t, "At", got(tree.At(rank)), got(want.at(rank)))
	}
	sameAll(t, "All", tree.All(), want)
	sameAll(t, "Back", tree.Back(), want.backward())
}

// near are the odd numbers, and those around some of the keys.
func (m model) near(x *mixer) []int {
	l := slices.Clone(odd)
	for range min(len(m), 12) {
		key := m[x.below(len(m))].key
		l = append(l, key-1, key, key+1)
	}
	return append(l, int(x.next()))
}

// orders hands on each order of these keys.
func orders(keys []int, see func([]int)) {
	var turn func(k int)
	l := slices.Clone(keys)
	turn = func(k int) {
		if k == len(l) {
			see(slices.Clone(l))
			return
		}
		for i := k; i < len(l); i++ {
			l[k], l[i] = l[i], l[k]
			turn(k + 1)
			l[k], l[i] = l[i], l[k]
		}
	}
	turn(0)
}
