package arena_test

import (
	"math"
	"runtime"
	"slices"
	"testing"
	"weak"

	"bourse/api"
	"bourse/arena"
)

func TestP5_1Examples(t *testing.T) {
	p := newPair(t, 2, 1)
	x, _ := p.take(1)
	y, _ := p.take(2)
	if x != (api.Handle{Index: 0, Life: 1}) || y != (api.Handle{Index: 1, Life: 1}) {
		t.Error(x, y)
	}
	if h, why := p.take(3); h != (api.Handle{}) || why != api.ErrNodes {
		t.Error(h, why)
	}
	if why := p.drop(x); why != api.OK {
		t.Error(why)
	}
	if v, why := p.a.Get(x); v != 0 || why != api.ErrHandle {
		t.Error(v, why)
	}
	if h, _ := p.take(3); h != (api.Handle{Index: 0, Life: 2}) {
		t.Error(h)
	}
}

func TestP5_1Room(t *testing.T) {
	for _, room := range []int{0, -1, math.MinInt, math.MinInt32, api.MaxNodes + 1, math.MaxInt32, 1<<32 + 1, math.MaxInt} {
		if a, why := arena.New[int](room); a != nil || why != api.ErrArg {
			t.Error(room, why)
		}
	}
	for _, room := range []int{1, 2, api.MaxNodes - 1, api.MaxNodes} {
		if a, why := arena.New[int](room); a == nil || why != api.OK || a.Len() != 0 || a.Free() != room {
			t.Error(room, why)
		}
	}
}

// A great value in the greatest room is not paid for until it is there.
func TestP5_1GreatValue(t *testing.T) {
	a, why := arena.New[[1 << 22]byte](api.MaxNodes)
	if why != api.OK {
		t.Fatal(why)
	}
	var v [1 << 22]byte
	v[77] = 7
	h, _ := a.Take(v)
	if got, why := a.Get(h); got != v || why != api.OK {
		t.Error(why)
	}
}

// The greatest room holds exactly so many, and each place's number is its own.
func TestP5_1Full(t *testing.T) {
	a, _ := arena.New[int](api.MaxNodes)
	for life := uint32(1); life <= 2; life++ {
		for i := range api.MaxNodes {
			h, why := a.Take(i)
			if why != api.OK || h != (api.Handle{Index: uint32(i), Life: life}) || a.Len() != i+1 || a.Free() != api.MaxNodes-i-1 {
				t.Fatal(i, h, why)
			}
		}
		if h, why := a.Take(0); h != (api.Handle{}) || why != api.ErrNodes || a.Len() != api.MaxNodes {
			t.Fatal(h, why)
		}
		for i := api.MaxNodes - 1; i >= 0; i-- {
			h := api.Handle{Index: uint32(i), Life: life}
			if v, why := a.Get(h); v != i || why != api.OK {
				t.Fatal(i, v, why)
			}
			if why := a.Drop(h); why != api.OK {
				t.Fatal(i, why)
			}
		}
	}
}

// Places that were dropped come back, the last one first; a place that never was taken only behind all of them.
func TestP5_1Places(t *testing.T) {
	p := newPair(t, 6, 1)
	var l []api.Handle
	for range 4 {
		h, _ := p.take(0)
		l = append(l, h)
	}
	for _, i := range []int{1, 3, 0} {
		p.drop(l[i])
	}
	for _, want := range []api.Handle{{Index: 0, Life: 2}, {Index: 3, Life: 2}, {Index: 1, Life: 2}, {Index: 4, Life: 1}, {Index: 5, Life: 1}} {
		if h, why := p.take(0); h != want || why != api.OK {
			t.Error(h, why, want)
		}
	}
	if _, why := p.take(0); why != api.ErrNodes {
		t.Error(why)
	}
	for want := uint32(3); want < 1000; want++ {
		p.drop(api.Handle{Index: 3, Life: want - 1})
		if h, _ := p.take(0); h != (api.Handle{Index: 3, Life: want}) {
			t.Fatal(h, want)
		}
	}
}

// Nodes hold whatever type there is; arenas know nothing of one another.
func TestP5_1Kinds(t *testing.T) {
	n, _ := arena.New[struct{}](1)
	s, _ := arena.New[[]string](1)
	f, _ := arena.New[func() int](1)
	h, why := n.Take(struct{}{})
	if why != api.OK || s.Len() != 0 || f.Free() != 1 {
		t.Error(why)
	}
	if _, why := s.Get(h); why != api.ErrHandle {
		t.Error(why)
	}
	s.Take([]string{"a", "b"})
	if v, why := s.Get(h); !slices.Equal(v, []string{"a", "b"}) || why != api.OK {
		t.Error(v, why)
	}
	if g, why := f.Get(h); g != nil || why != api.ErrHandle {
		t.Error(why)
	}
	f.Take(func() int { return 7 })
	if g, why := f.Get(h); why != api.OK || g() != 7 {
		t.Error(why)
	}
	if why := f.Set(h, nil); why != api.OK {
		t.Error(why)
	}
	if g, _ := f.Get(h); g != nil {
		t.Error("Set")
	}
}

func TestP5_2Values(t *testing.T) {
	p := newPair(t, 3, 2)
	a, _ := p.take(5)
	b, _ := p.take(6)
	if why := p.set(a, 7); why != api.OK {
		t.Error(why)
	}
	p.looked()
	if v, why := p.a.Get(a); v != 7 || why != api.OK {
		t.Error(v, why)
	}
	if v, why := p.a.Get(b); v != 6 || why != api.OK {
		t.Error(v, why)
	}
	p.push(1, a)
	if why := p.drop(a); why != api.ErrQueue {
		t.Error(why)
	}
	p.mark(1, a)
	if why := p.drop(a); why != api.ErrQueue {
		t.Error(why)
	}
	// A dead node that stands in its queue is taken still, and has its value.
	if why := p.set(a, 8); why != api.OK {
		t.Error(why)
	}
	p.looked()
	p.remove(1, a)
	if why := p.drop(a); why != api.OK {
		t.Error(why)
	}
	if why := p.drop(a); why != api.ErrHandle {
		t.Error(why)
	}
	p.looked()
}

// Every call refuses a handle that is not good, and changes nothing.
func TestP5_2Wrong(t *testing.T) {
	p, l := filled(t, 4, 2)
	gone, _ := p.take(9)
	p.drop(gone)
	wrong := slices.DeleteFunc(slices.Clone(p.known), func(h api.Handle) bool { return slices.Contains(l, h) })
	for _, h := range wrong {
		for _, why := range []api.Errno{p.drop(h), p.set(h, 1), p.push(0, h), p.push(1, h), p.remove(0, h), p.mark(0, h)} {
			if why != api.ErrHandle {
				t.Fatal(h, why)
			}
		}
		if v, why := p.a.Get(h); v != 0 || why != api.ErrHandle {
			t.Fatal(h, v, why)
		}
		if n, ok := p.qs[0].Next(h); n != (api.Handle{}) || ok {
			t.Fatal(h, n)
		}
	}
	p.looked()
}

// What a node's value points to is not kept behind the node.
func TestP5_2Forgotten(t *testing.T) {
	type great [64]int
	a, _ := arena.New[*great](4)
	q := a.NewQueue()
	var seen []weak.Pointer[great]
	var l []api.Handle
	for range 4 {
		v := &great{}
		seen = append(seen, weak.Make(v))
		h, _ := a.Take(v)
		l = append(l, h)
	}
	a.Drop(l[0])
	for _, h := range l[1:] {
		q.Push(h)
	}
	q.Mark(l[1])
	q.Pop()
	q.Mark(l[3])
	q.Sweep()
	runtime.GC()
	for i, kept := range []bool{false, false, true, false} {
		if (seen[i].Value() != nil) != kept {
			t.Error(i)
		}
	}
	runtime.KeepAlive(a)
}

func TestP5_3Counts(t *testing.T) {
	p := newPair(t, 3, 1)
	for i := range 4 {
		p.looked()
		if n := p.a.Len(); n != min(i, 3) || p.a.Free() != 3-n {
			t.Error(n, p.a.Free())
		}
		if h, why := p.take(i); why == api.OK {
			p.push(0, h)
		}
	}
	p.mark(0, api.Handle{Index: 1, Life: 1})
	if p.a.Len() != 3 {
		t.Error("a dead node is taken")
	}
	p.sweep(0)
	if p.a.Len() != 2 || p.a.Free() != 1 {
		t.Error(p.a.Len(), p.a.Free())
	}
}

// Every call on whatever there is answers what the model does, and leaves behind what it has.
func TestP5_9Model(t *testing.T) {
	for seed := range 60 {
		x := mixer(seed)
		p := newPair(t, 1+seed%9, 1+seed%4)
		for range 400 {
			p.step(&x)
			p.looked()
		}
	}
}

// A long run in greater rooms, looked at now and then.
func TestP5_9LongRun(t *testing.T) {
	for seed := range 4 {
		x := mixer(1000 + seed)
		p := newPair(t, 50, 3)
		for i := range 20000 {
			p.step(&x)
			if i%1000 == 0 {
				p.looked()
			}
		}
		p.looked()
	}
}

// The nodes of all queues and those that can be pushed are the nodes that are taken.
func TestP5_9NothingLost(t *testing.T) {
	x := mixer(7)
	p := newPair(t, 20, 3)
	for range 300 {
		p.step(&x)
	}
	for q := range p.qs {
		for _, h := range p.qs[q].All() {
			p.mark(q, h)
		}
	}
	stood := p.qs[0].Dead() + p.qs[1].Dead() + p.qs[2].Dead()
	loose := p.a.Len() - stood
	if stood == 0 || loose == 0 || p.a.Len()+p.a.Free() != 20 {
		t.Fatal(stood, loose, p.a.Len(), p.a.Free())
	}
	pushed := 0
	for _, h := range p.known {
		if p.push(0, h) == api.OK {
			pushed++
		}
	}
	if pushed != loose {
		t.Error(pushed, loose)
	}
	if n := p.sweep(0) + p.sweep(1) + p.sweep(2); n != stood || p.a.Len() != loose {
		t.Error(n, stood, p.a.Len())
	}
}

// A handle of a node that is gone finds nothing, however often its place is taken anew.
func TestP5_8Stale(t *testing.T) {
	p := newPair(t, 1, 1)
	var gone []api.Handle
	for i := range 300 {
		h, why := p.take(i)
		if why != api.OK || slices.Contains(gone, h) {
			t.Fatal(h, why)
		}
		switch p.push(0, h); i % 3 {
		case 0:
			p.remove(0, h)
			p.drop(h)
		case 1:
			p.mark(0, h)
			p.sweep(0)
		case 2:
			p.pop(0)
			p.drop(h)
		}
		gone = append(gone, h)
		p.take(-1)
		for _, h := range gone {
			_, got := p.a.Get(h)
			for _, why := range []api.Errno{got, p.a.Set(h, 1), p.a.Drop(h), p.qs[0].Push(h), p.qs[0].Mark(h), p.qs[0].Remove(h)} {
				if why != api.ErrHandle {
					t.Fatal(h, why)
				}
			}
		}
		now := p.known[len(p.known)-1]
		p.looked()
		p.drop(now)
		gone = append(gone, now)
	}
}

// An arena that New did not make has no room, and a queue that NewQueue did not make has no nodes.
func TestP5_1Zero(t *testing.T) {
	var a arena.Arena[int]
	var q arena.Queue[int]
	h, why := a.Take(1)
	if why == api.OK || a.Drop(h) == api.OK || a.Set(h, 1) == api.OK || q.Push(h) == api.OK || q.Remove(h) == api.OK || q.Mark(h) == api.OK {
		t.Error(h, why)
	}
	if h, ok := q.Pop(); ok || q.Sweep() != 0 || len(q.All()) != 0 {
		t.Error(h)
	}
}
