package arena_test

import (
	"slices"
	"testing"

	"bourse/api"
	"bourse/arena"
)

func TestP5_4Push(t *testing.T) {
	p, l := filled(t, 5, 3)
	if got := p.qs[0].All(); !slices.Equal(got, l) || len(p.qs[1].All()) != 0 {
		t.Error(got)
	}
	// Neither into its own queue again nor into another one, dead or not.
	for range 2 {
		for q := range p.qs {
			if why := p.push(q, l[1]); why != api.ErrQueue {
				t.Error(q, why)
			}
		}
		p.looked()
		p.mark(0, l[1])
	}
	// One that is out goes behind all, and is not dead any more.
	p.remove(0, l[1])
	if why := p.push(0, l[1]); why != api.OK {
		t.Error(why)
	}
	if got := p.qs[0].All(); !slices.Equal(got, []api.Handle{l[0], l[2], l[1]}) || p.qs[0].Dead() != 0 {
		t.Error(got)
	}
	h, _ := p.pop(0)
	if why := p.push(1, h); why != api.OK || h != l[0] {
		t.Error(h, why)
	}
	p.looked()
}

// Queues of two arenas have nothing to do with each other, though their handles are alike.
func TestP5_4TwoArenas(t *testing.T) {
	p, l := filled(t, 3, 2)
	o, k := filled(t, 3, 2)
	if !slices.Equal(l, k) {
		t.Fatal(l, k)
	}
	p.mark(0, l[0])
	p.pop(0)
	o.looked()
	p.looked()
}

func TestP5_5Look(t *testing.T) {
	p, l := filled(t, 6, 5)
	none := answer{}
	// steps makes one dead after the other; each step tells the first, and the next one of each.
	steps := []struct {
		dead  int
		first int
		next  [5]int
	}{
		{2, 0, [5]int{1, 3, 3, 4, -1}},
		{0, 1, [5]int{1, 3, 3, 4, -1}},
		{4, 1, [5]int{1, 3, 3, -1, -1}},
		{1, 3, [5]int{3, 3, 3, -1, -1}},
		{3, -1, [5]int{-1, -1, -1, -1, -1}},
	}
	named := func(i int) answer {
		if i < 0 {
			return none
		}
		return answer{h: l[i], good: true}
	}
	for i, s := range steps {
		p.mark(0, l[s.dead])
		h, ok := p.qs[0].First()
		if got := (answer{h: h, good: ok}); got != named(s.first) {
			t.Error(i, got)
		}
		for j, next := range s.next {
			h, ok := p.qs[0].Next(l[j])
			if got := (answer{h: h, good: ok}); got != named(next) {
				t.Error(i, j, got)
			}
		}
		if p.qs[0].Live() != 4-i || p.qs[0].Dead() != i+1 || len(p.qs[0].All()) != 4-i || p.a.Len() != 5 {
			t.Error(i, p.qs[0].Live(), p.qs[0].Dead(), p.a.Len())
		}
		p.looked()
	}
	// What is pushed behind dead ones alone is the first.
	h, _ := p.take(9)
	p.push(0, h)
	p.looked()
}

// Next of a node that stands in another queue, or in none.
func TestP5_5Elsewhere(t *testing.T) {
	p, l := filled(t, 5, 3)
	loose, _ := p.take(9)
	for _, h := range append(slices.Clone(l), loose) {
		if n, ok := p.qs[1].Next(h); n != (api.Handle{}) || ok {
			t.Error(h, n)
		}
	}
	p.remove(0, l[1])
	if n, ok := p.qs[0].Next(l[1]); n != (api.Handle{}) || ok {
		t.Error(n)
	}
	if n, ok := p.qs[0].Next(l[0]); n != l[2] || !ok {
		t.Error(n, ok)
	}
	if n, ok := p.qs[1].First(); n != (api.Handle{}) || ok {
		t.Error(n)
	}
	p.looked()
}

// What All answers is the caller's own, its spare room too.
func TestP5_5NewMemory(t *testing.T) {
	p, l := filled(t, 5, 3)
	p.mark(0, l[1])
	one, two := p.qs[0].All(), p.qs[0].All()
	whole := one[:cap(one)]
	for i := range whole {
		whole[i] = api.Handle{Index: 77, Life: 77}
	}
	if !slices.Equal(two, []api.Handle{l[0], l[2]}) {
		t.Error(two)
	}
	p.looked()
	p.pop(0)
	if !slices.Equal(two, []api.Handle{l[0], l[2]}) {
		t.Error(two)
	}
}

func TestP5_6RemoveAndMark(t *testing.T) {
	for i := range 4 {
		p, l := filled(t, 5, 4)
		loose, _ := p.take(9)
		for _, why := range []api.Errno{p.remove(1, l[i]), p.mark(1, l[i]), p.remove(0, loose), p.mark(0, loose), p.remove(1, loose)} {
			if why != api.ErrQueue {
				t.Error(i, why)
			}
		}
		p.looked()
		for range 2 {
			if why := p.mark(0, l[i]); why != api.OK || p.qs[0].Dead() != 1 || p.qs[0].Live() != 3 {
				t.Error(i, why, p.qs[0].Dead())
			}
			p.looked()
		}
		if why := p.remove(0, l[i]); why != api.OK || p.qs[0].Dead() != 0 || p.qs[0].Live() != 3 {
			t.Error(i, why)
		}
		// It is taken still, out of all queues.
		if v, why := p.a.Get(l[i]); v != i || why != api.OK || p.a.Len() != 5 {
			t.Error(i, v, why)
		}
		for _, why := range []api.Errno{p.remove(0, l[i]), p.mark(0, l[i])} {
			if why != api.ErrQueue {
				t.Error(i, why)
			}
		}
		p.looked()
		p.drop(l[i])
		for _, why := range []api.Errno{p.remove(0, l[i]), p.mark(0, l[i])} {
			if why != api.ErrHandle {
				t.Error(i, why)
			}
		}
		p.looked()
	}
}

func TestP5_7Examples(t *testing.T) {
	p, l := filled(t, 9, 3)
	p.mark(0, l[0])
	p.mark(0, l[1])
	if h, ok := p.qs[0].First(); h != l[2] || !ok || p.qs[0].Live() != 1 || p.qs[0].Dead() != 2 || p.a.Len() != 3 {
		t.Error(h, ok)
	}
	if h, ok := p.pop(0); h != l[2] || !ok || p.a.Len() != 1 {
		t.Error(h, ok)
	}
	p, l = filled(t, 9, 3)
	p.mark(0, l[1])
	if n := p.sweep(0); n != 1 {
		t.Error(n)
	}
	if got := p.qs[0].All(); !slices.Equal(got, []api.Handle{l[0], l[2]}) {
		t.Error(got)
	}
	if _, why := p.a.Get(l[1]); why != api.ErrHandle {
		t.Error(why)
	}
}

// Where nothing is left that is not dead, Pop leaves the dead ones where they are.
func TestP5_7PopNothing(t *testing.T) {
	p, l := filled(t, 3, 3)
	for _, h := range l {
		p.mark(0, h)
	}
	for _, q := range []int{0, 1} {
		if h, ok := p.pop(q); h != (api.Handle{}) || ok {
			t.Error(q, h)
		}
	}
	if p.qs[0].Dead() != 3 || p.a.Len() != 3 {
		t.Error(p.qs[0].Dead(), p.a.Len())
	}
	p.looked()
	if n := p.sweep(1); n != 0 || p.a.Len() != 3 {
		t.Error(n)
	}
	if n := p.sweep(0); n != 3 || p.a.Len() != 0 {
		t.Error(n)
	}
	if n := p.sweep(0); n != 0 {
		t.Error(n)
	}
	p.looked()
}

// Pop drops the dead ones ahead of the first one alone, and leaves that one taken; Sweep drops all. What was dropped comes back the other way round.
func TestP5_7Dropped(t *testing.T) {
	marked := []int{0, 1, 3, 5, 6}
	for _, c := range []struct {
		sweep bool
		back  []uint32
	}{{false, []uint32{1, 0, 7}}, {true, []uint32{6, 5, 3, 1, 0, 7}}} {
		p, l := filled(t, 9, 7)
		for _, i := range marked {
			p.mark(0, l[i])
		}
		if c.sweep {
			p.sweep(0)
		} else if h, ok := p.pop(0); h != l[2] || !ok || p.qs[0].Dead() != 3 || p.qs[0].Live() != 1 {
			t.Error(h, ok)
		}
		if v, why := p.a.Get(l[2]); v != 2 || why != api.OK {
			t.Error(v, why)
		}
		p.looked()
		for _, want := range c.back {
			if h, _ := p.take(0); h.Index != want {
				t.Error(h, want)
			}
		}
		p.looked()
	}
}

// All behind a call is what it was ahead of it, without the node that the call takes away.
func TestP5_10Order(t *testing.T) {
	for seed := range 40 {
		x := mixer(500 + seed)
		p, l := filled(t, 30, 30)
		for range 60 {
			h := l[x.below(len(l))]
			before := p.qs[0].All()
			want := slices.Clone(before)
			without := func(h api.Handle) []api.Handle {
				return slices.DeleteFunc(want, func(k api.Handle) bool { return k == h })
			}
			switch x.below(4) {
			case 0:
				if p.mark(0, h) == api.OK {
					want = without(h)
				}
			case 1:
				if p.remove(0, h) == api.OK {
					want = without(h)
				}
			case 2:
				p.sweep(0)
			case 3:
				if h, ok := p.pop(0); ok {
					if h != before[0] {
						t.Fatal(h, before)
					}
					want = want[1:]
				}
			}
			if got := p.qs[0].All(); !slices.Equal(got, want) {
				t.Fatal(before, got, want)
			}
		}
		p.looked()
	}
}

// First is asked for as often as one likes, with whatever stands dead ahead of it.
func TestP5_5ManyDead(t *testing.T) {
	a, _ := arena.New[int](api.MaxNodes)
	q := a.NewQueue()
	var last api.Handle
	for i := range api.MaxNodes {
		last, _ = a.Take(i)
		if why := q.Push(last); why != api.OK {
			t.Fatal(why)
		}
	}
	for i := range api.MaxNodes - 1 {
		h, ok := q.First()
		if !ok || h.Index != uint32(i) || q.Mark(h) != api.OK {
			t.Fatal(i, h)
		}
	}
	for range 200000 {
		if h, ok := q.First(); h != last || !ok {
			t.Fatal(h)
		}
	}
	if h, ok := q.Pop(); h != last || !ok || a.Len() != 1 || q.Dead() != 0 {
		t.Error(h, a.Len(), q.Dead())
	}
}
