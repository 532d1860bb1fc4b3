package bitmap_test

import (
	"slices"
	"testing"

	"bourse/api"
	"bourse/bitmap"
)

// walk makes calls on a map and on its model, most often at ticks from which others are not far, and hands both on now and then.
func walk(t *testing.T, seed mixer, steps, each int, look func(*bitmap.Map, model, *mixer)) {
	t.Helper()
	x := seed
	m, want := new(bitmap.Map), model(nil)
	for step := range steps {
		tick := x.below(api.Ticks)
		switch x.below(5) {
		case 0:
			tick = x.below(200)
		case 1:
			tick = api.Ticks - 1 - x.below(200)
		case 2:
			tick = x.below(64)*4096 + x.below(2)*4095
		case 3:
			tick = odd[x.below(len(odd))]
		}
		if x.below(3) > 0 {
			if a, b := m.Set(tick), want.set(tick); a != b {
				t.Fatalf("Set(%d): got %v", tick, a)
			}
		} else {
			if len(want) > 0 && x.below(3) > 0 {
				tick = want[x.below(len(want))]
			}
			if a, b := m.Clear(tick), want.clear(tick); a != b {
				t.Fatalf("Clear(%d): got %v", tick, a)
			}
		}
		if step%each == 0 {
			look(m, want, &x)
		}
	}
	// And down to nothing.
	for len(want) > 0 {
		tick := want[x.below(len(want))]
		if !m.Clear(tick) || !want.clear(tick) {
			t.Fatal("Clear", tick)
		}
		if len(want)%16 == 0 {
			look(m, want, &x)
		}
	}
}

func TestP6_7Levels(t *testing.T) {
	for seed := range mixer(8) {
		walk(t, 70+seed, 1500, 7, func(m *bitmap.Map, want model, x *mixer) {
			looked(t, m, want, x)
			if (m.Top() == 0) != (len(want) == 0) {
				t.Fatal("Top", m.Top())
			}
		})
	}
}

func TestP6_8Neighbours(t *testing.T) {
	walk(t, 80, 2000, 9, func(m *bitmap.Map, want model, x *mixer) {
		for _, n := range want.near(x) {
			if a, ok := m.Above(n); ok {
				if b, ok := m.Below(a); b != a || !ok || m.Count(n, a) != 0 {
					t.Fatalf("Below(Above(%d)): %d", n, b)
				}
			}
			if b, ok := m.Below(n); ok {
				if a, ok := m.Above(b); b != a || !ok {
					t.Fatalf("Above(Below(%d)): %d", n, a)
				}
			}
			here := found{n, true}
			if m.Has(n) && (got(m.Above(n)) != here || got(m.Below(n)) != here) {
				t.Fatalf("at %d itself", n)
			}
		}
	})
}

func TestP6_9Counting(t *testing.T) {
	walk(t, 90, 2000, 9, func(m *bitmap.Map, want model, x *mixer) {
		if m.Count(0, api.Ticks) != m.Len() {
			t.Fatal("Count of all", m.Count(0, api.Ticks), m.Len())
		}
		l := want.near(x)
		for range 40 {
			c := []int{l[x.below(len(l))], l[x.below(len(l))], l[x.below(len(l))]}
			slices.Sort(c)
			if m.Count(c[0], c[1])+m.Count(c[1], c[2]) != m.Count(c[0], c[2]) {
				t.Fatal("Count does not add up", c)
			}
		}
		for _, n := range l {
			if isTick(n) && got(m.At(m.Count(0, n))) != got(m.Above(n)) {
				t.Fatal("At(Count)", n)
			}
		}
		if a, b := slices.Collect(m.All()), slices.Collect(m.Back()); !slices.Equal(a, want) || !slices.Equal(b, backward(want)) {
			t.Fatal("All, Back", a, b)
		}
	})
}
