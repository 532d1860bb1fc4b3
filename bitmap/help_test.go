package bitmap_test

import (
	"iter"
	"math"
	"slices"
	"testing"

	"bourse/api"
	"bourse/bitmap"
)

// The tests hold every answer against a model that keeps the ticks in a plain sorted list, as the chapter's words have them.

// mixer makes the same numbers in every run.
type mixer uint64

func (x *mixer) next() uint64 {
	*x += 0x9e3779b97f4a7c15
	n := uint64(*x)
	n = (n ^ n>>30) * 0xbf58476d1ce4e5b9
	n = (n ^ n>>27) * 0x94d049bb133111eb
	return n ^ n>>31
}

func (x *mixer) below(n int) int { return int(x.next() % uint64(n)) }

// odd are numbers at which something changes: ends of words, of groups of words, of the ticks, and of all numbers.
var odd = []int{
	math.MinInt, math.MinInt32, -api.Ticks, -4097, -64, -2, -1,
	0, 1, 2, 62, 63, 64, 65, 127, 128, 4031, 4032, 4094, 4095, 4096, 4097, 4159, 4160, 8191, 8192,
	131071, 131072, api.Ticks - 4097, api.Ticks - 4096, api.Ticks - 65, api.Ticks - 64, api.Ticks - 2, api.Ticks - 1,
	api.Ticks, api.Ticks + 1, api.Ticks + 63, api.Ticks + 64, 2 * api.Ticks, math.MaxInt32, math.MaxInt,
}

func isTick(n int) bool { return n >= 0 && n < api.Ticks }

// model is the ticks of a set, rising.
type model []int

func (m *model) set(tick int) bool {
	i, there := slices.BinarySearch(*m, tick)
	if !isTick(tick) || there {
		return false
	}
	*m = slices.Insert(*m, i, tick)
	return true
}

func (m *model) clear(tick int) bool {
	i, there := slices.BinarySearch(*m, tick)
	if there {
		*m = slices.Delete(*m, i, i+1)
	}
	return there
}

func (m model) above(n int) (int, bool) {
	for _, tick := range m {
		if tick >= n {
			return tick, true
		}
	}
	return 0, false
}

func (m model) below(n int) (int, bool) {
	for _, tick := range slices.Backward(m) {
		if tick <= n {
			return tick, true
		}
	}
	return 0, false
}

func (m model) count(from, to int) int {
	n := 0
	for _, tick := range m {
		if tick >= from && tick < to {
			n++
		}
	}
	return n
}

func (m model) at(rank int) (int, bool) {
	if rank < 0 || rank >= len(m) {
		return 0, false
	}
	return m[rank], true
}

// words are the three levels, as the chapter says them of the ticks.
func (m model) words() (uint64, [64]uint64, [4096]uint64) {
	var top uint64
	var middle [64]uint64
	var low [4096]uint64
	for _, tick := range m {
		low[tick/64] |= 1 << (tick % 64)
	}
	for i, w := range low {
		if w != 0 {
			middle[i/64] |= 1 << (i % 64)
		}
	}
	for i, w := range middle {
		if w != 0 {
			top |= 1 << i
		}
	}
	return top, middle, low
}

// of is a map with these ticks, put in in this order.
func of(t *testing.T, ticks ...int) *bitmap.Map {
	t.Helper()
	m := new(bitmap.Map)
	for _, tick := range ticks {
		if !m.Set(tick) {
			t.Fatal("Set", tick)
		}
	}
	return m
}

// found is a tick and whether there is one.
type found struct {
	tick int
	ok   bool
}

func got(tick int, ok bool) found { return found{tick, ok} }

// near are the odd numbers, and those around some of the set's ticks.
func (m model) near(x *mixer) []int {
	l := slices.Clone(odd)
	for range min(len(m), 12) {
		tick := m[x.below(len(m))]
		l = append(l, tick-1, tick, tick+1, tick^63, tick^64, tick^4096)
	}
	return append(l, x.below(api.Ticks), x.below(api.Ticks))
}

// looked holds all that can be seen against the model.
func looked(t *testing.T, m *bitmap.Map, want model, x *mixer) {
	t.Helper()
	sameWords(t, m, want)
	if n := m.Len(); n != len(want) {
		t.Fatalf("Len: got %d, wanted %d", n, len(want))
	}
	l := want.near(x)
	for _, n := range l {
		_, there := slices.BinarySearch(want, n)
		if m.Has(n) != there {
			t.Fatalf("Has(%d): wanted %v", n, there)
		}
		if a, b := got(m.Above(n)), got(want.above(n)); a != b {
			t.Fatalf("Above(%d): got %v, wanted %v", n, a, b)
		}
		if a, b := got(m.Below(n)), got(want.below(n)); a != b {
			t.Fatalf("Below(%d): got %v, wanted %v", n, a, b)
		}
		to := l[x.below(len(l))]
		if a, b := m.Count(n, to), want.count(n, to); a != b {
			t.Fatalf("Count(%d, %d): got %d, wanted %d", n, to, a, b)
		}
		if a, b := got(m.At(n)), got(want.at(n)); a != b {
			t.Fatalf("At(%d): got %v, wanted %v", n, a, b)
		}
	}
}

func sameWords(t *testing.T, m *bitmap.Map, want model) {
	t.Helper()
	top, middle, low := want.words()
	if m.Top() != top {
		t.Fatalf("Top: got %x, wanted %x", m.Top(), top)
	}
	for i, w := range middle {
		if m.Middle(i) != w {
			t.Fatalf("Middle(%d): got %x, wanted %x", i, m.Middle(i), w)
		}
	}
	for i, w := range low {
		if m.Low(i) != w {
			t.Fatalf("Low(%d): got %x, wanted %x", i, m.Low(i), w)
		}
	}
}

func same(t *testing.T, what string, seq iter.Seq[int], want ...int) {
	t.Helper()
	if l := slices.Collect(seq); !slices.Equal(l, want) {
		t.Errorf("%s: got %v, wanted %v", what, l, want)
	}
}

func backward(l []int) []int {
	l = slices.Clone(l)
	slices.Reverse(l)
	return l
}
