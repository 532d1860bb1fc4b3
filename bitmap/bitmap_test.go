package bitmap_test

import (
	"slices"
	"testing"

	"bourse/api"
	"bourse/bitmap"
)

func TestP6_1SetClearHas(t *testing.T) {
	m := new(bitmap.Map)
	if m.Has(70) || m.Clear(70) {
		t.Error("there is nothing yet")
	}
	if !m.Set(70) || !m.Has(70) || m.Has(69) || m.Has(71) || m.Has(6) || m.Has(70+4096) {
		t.Error("Set(70)")
	}
	if m.Set(70) || !m.Has(70) || m.Len() != 1 {
		t.Error("Set(70), again")
	}
	if m.Clear(71) || m.Clear(6) || !m.Has(70) {
		t.Error("Clear of another one")
	}
	if !m.Clear(70) || m.Has(70) || m.Clear(70) || m.Len() != 0 {
		t.Error("Clear(70)")
	}
}

func TestP6_1NoTick(t *testing.T) {
	var want model
	x := mixer(1)
	m := new(bitmap.Map)
	for _, n := range odd {
		if m.Clear(n) || m.Has(n) {
			t.Error("it is empty:", n)
		}
		if m.Set(n) != want.set(n) || m.Set(n) || m.Has(n) != isTick(n) {
			t.Error("Set", n)
		}
	}
	looked(t, m, want, &x)
	for _, n := range odd {
		if m.Clear(n) != isTick(n) || m.Clear(n) {
			t.Error("Clear", n)
		}
	}
	looked(t, m, nil, &x)
}

func TestP6_2AboveBelow(t *testing.T) {
	m := of(t, 262143, 3, 70)
	for _, c := range []struct {
		n           int
		above, down found
	}{
		{-5, found{3, true}, found{}},
		{0, found{3, true}, found{}},
		{2, found{3, true}, found{}},
		{3, found{3, true}, found{3, true}},
		{4, found{70, true}, found{3, true}},
		{69, found{70, true}, found{3, true}},
		{70, found{70, true}, found{70, true}},
		{71, found{262143, true}, found{70, true}},
		{262142, found{262143, true}, found{70, true}},
		{262143, found{262143, true}, found{262143, true}},
		{262144, found{}, found{262143, true}},
		{9999999, found{}, found{262143, true}},
	} {
		if a := got(m.Above(c.n)); a != c.above {
			t.Errorf("Above(%d): %v", c.n, a)
		}
		if b := got(m.Below(c.n)); b != c.down {
			t.Errorf("Below(%d): %v", c.n, b)
		}
	}
}

func TestP6_2Alone(t *testing.T) {
	for _, tick := range odd {
		if !isTick(tick) {
			continue
		}
		m := of(t, tick)
		for _, n := range odd {
			if a := got(m.Above(n)); a != got(model{tick}.above(n)) {
				t.Errorf("%d: Above(%d): %v", tick, n, a)
			}
			if b := got(m.Below(n)); b != got(model{tick}.below(n)) {
				t.Errorf("%d: Below(%d): %v", tick, n, b)
			}
		}
	}
}

func TestP6_3Counts(t *testing.T) {
	m := of(t, 70, 262143, 3)
	for _, c := range [][3]int{
		{3, 71, 2}, {3, 70, 1}, {4, 70, 0}, {3, 3, 0}, {71, 3, 0}, {0, api.Ticks, 3}, {-9, 9999999, 3},
		{262143, 262144, 1}, {262144, 9999999, 0}, {-9, 3, 0}, {-9, -3, 0}, {9999999, -9, 0}, {262143, 262143, 0},
	} {
		if n := m.Count(c[0], c[1]); n != c[2] {
			t.Error("Count", c, n)
		}
	}
	for rank, want := range map[int]found{-1: {}, 0: {3, true}, 1: {70, true}, 2: {262143, true}, 3: {}} {
		if a := got(m.At(rank)); a != want {
			t.Errorf("At(%d): %v", rank, a)
		}
	}
	if m.Len() != 3 {
		t.Error("Len", m.Len())
	}
}

func TestP6_3Full(t *testing.T) {
	m := new(bitmap.Map)
	for tick := range api.Ticks {
		if !m.Set(tick) {
			t.Fatal("Set", tick)
		}
	}
	if m.Len() != api.Ticks || m.Count(1, api.Ticks-1) != api.Ticks-2 || m.Top() != 1<<64-1 {
		t.Error("Len, Count, Top")
	}
	for _, n := range odd {
		want := found{}
		if isTick(n) {
			want = found{n, true}
		}
		if a := got(m.At(n)); a != want {
			t.Errorf("At(%d): %v", n, a)
		}
	}
}

func TestP6_4AllBack(t *testing.T) {
	m := of(t, 70, 262143, 3, 4096, 64)
	same(t, "All", m.All(), 3, 64, 70, 4096, 262143)
	same(t, "Back", m.Back(), 262143, 4096, 70, 64, 3)
	m = of(t, 0)
	same(t, "All", m.All(), 0)
	same(t, "Back", m.Back(), 0)
	m.Clear(0)
	same(t, "All", m.All())
	same(t, "Back", m.Back())
}

func TestP6_4Meanwhile(t *testing.T) {
	for name, back := range map[string]bool{"All": false, "Back": true} {
		m := of(t, 3, 70, 5000)
		seq, want := m.All(), []int{3, 70, 5000}
		if back {
			seq = m.Back()
		}
		m.Set(200000) // ahead of the going: it is to be seen
		want = append(want, 200000)
		if back {
			want = backward(want)
		}
		var l []int
		for tick := range seq {
			l = append(l, tick)
			m.Clear(70)
			m.Clear(5000)
			m.Set(4)
			m.Set(6000)
			m.Set(262143)
		}
		if !slices.Equal(l, want) {
			t.Errorf("%s: got %v, wanted %v", name, l, want)
		}
		again := []int{3, 4, 6000, 200000, 262143}
		if back {
			again = backward(again)
		}
		same(t, name+", again", seq, again...)
	}
}

func TestP6_4Stopped(t *testing.T) {
	m := of(t, 3, 70, 5000)
	for name, seq := range map[string]func(func(int) bool){"All": m.All(), "Back": m.Back()} {
		n := 0
		for range seq {
			n++
			if n == 2 {
				break
			}
		}
		whole := slices.Collect(seq)
		if n != 2 || len(whole) != 3 {
			t.Error(name, n, whole)
		}
		var outer []int // one going within another one of the same iterator
		for range seq {
			for tick := range seq {
				outer = append(outer, tick)
			}
		}
		if !slices.Equal(outer, slices.Concat(whole, whole, whole)) {
			t.Error(name, outer)
		}
	}
}

func TestP6_5Words(t *testing.T) {
	m := new(bitmap.Map)
	sameWords(t, m, nil)
	m.Set(70)
	if m.Low(1) != 64 || m.Middle(0) != 2 || m.Top() != 1 {
		t.Error("70")
	}
	m.Set(3)
	m.Set(262143)
	if m.Top() != 1<<63+1 || m.Low(0) != 8 || m.Low(4095) != 1<<63 || m.Middle(63) != 1<<63 || m.Middle(0) != 3 {
		t.Error("3, 70, 262143")
	}
	m.Clear(70)
	if m.Low(1) != 0 || m.Middle(0) != 1 {
		t.Error("without 70")
	}
}

func TestP6_5NoWord(t *testing.T) {
	m := new(bitmap.Map)
	for tick := range api.Ticks {
		m.Set(tick)
	}
	for _, i := range odd {
		want := uint64(0)
		if i >= 0 && i < 64 {
			want--
		}
		if w := m.Middle(i); w != want {
			t.Errorf("Middle(%d): %x", i, w)
		}
		want = 0
		if i >= 0 && i < 4096 {
			want--
		}
		if w := m.Low(i); w != want {
			t.Errorf("Low(%d): %x", i, w)
		}
	}
}

func TestP6_6Equal(t *testing.T) {
	a, b := of(t, 3, 70), of(t, 70, 3, 9000)
	if a.Equal(b) || b.Equal(a) || !a.Equal(a) {
		t.Error("they are not the same")
	}
	b.Clear(9000)
	if !a.Equal(b) || !b.Equal(a) {
		t.Error("they are the same")
	}
	for _, tick := range odd {
		one := new(bitmap.Map)
		if one.Set(tick) && (one.Equal(new(bitmap.Map)) || new(bitmap.Map).Equal(one)) {
			t.Error("it is not empty:", tick)
		}
	}
	// The same words above it, another tick of the same word.
	if of(t, 3).Equal(of(t, 4)) {
		t.Error("3, 4")
	}
}

func TestP6_6Clone(t *testing.T) {
	x := mixer(6)
	m := of(t, 3, 70, 262143)
	c := m.Clone()
	if !c.Equal(m) || c == m {
		t.Error("Clone")
	}
	c.Set(4)
	c.Clear(70)
	m.Set(5000)
	m.Clear(3)
	looked(t, m, model{70, 5000, 262143}, &x)
	looked(t, c, model{3, 4, 262143}, &x)
	v := *m
	v.Clear(70)
	m.Clear(5000)
	looked(t, m, model{70, 262143}, &x)
	looked(t, &v, model{5000, 262143}, &x)
}
