package arena_test

import (
	"math"
	"slices"
	"testing"

	"bourse/api"
	"bourse/arena"
)

// The tests hold every answer against a model that keeps nodes and queues in plain lists, as the chapter's words have them.

// mixer makes the same numbers in every run.
type mixer uint64

func (x *mixer) next() uint64 {
	*x += 0x9e3779b97f4a7c15
	n := uint64(*x)
	n = (n ^ n>>30) * 0xbf58476d1ce4e5b9
	n = (n ^ n>>27) * 0x94d049bb133111eb
	return n ^ n>>31
}

func (x *mixer) below(n int) int { return int(x.next() % uint64(n)) }

// seat is where a node stands in a queue of the model.
type seat struct {
	h    api.Handle
	dead bool
}

// model is an arena and its queues.
type model struct {
	lives   []uint32 // of all places
	values  map[api.Handle]int
	dropped []uint32 // places that were, the last one last
	fresh   []uint32 // places that never were taken, rising
	queues  [][]seat
}

func newModel(room, queues int) *model {
	m := &model{lives: make([]uint32, room), values: map[api.Handle]int{}, queues: make([][]seat, queues)}
	for i := range room {
		m.fresh = append(m.fresh, uint32(i))
	}
	return m
}

func (m *model) take(v int) (api.Handle, api.Errno) {
	var place uint32
	switch {
	case len(m.dropped) > 0:
		place = m.dropped[len(m.dropped)-1]
		m.dropped = m.dropped[:len(m.dropped)-1]
	case len(m.fresh) > 0:
		place = m.fresh[0]
		m.fresh = m.fresh[1:]
	default:
		return api.Handle{}, api.ErrNodes
	}
	m.lives[place]++
	h := api.Handle{Index: place, Life: m.lives[place]}
	m.values[h] = v
	return h, api.OK
}

func (m *model) good(h api.Handle) bool {
	_, ok := m.values[h]
	return ok
}

// at is a node's queue and its place there; -1, -1: it stands in none.
func (m *model) at(h api.Handle) (int, int) {
	for q, l := range m.queues {
		if i := slices.IndexFunc(l, func(s seat) bool { return s.h == h }); i >= 0 {
			return q, i
		}
	}
	return -1, -1
}

func (m *model) release(h api.Handle) {
	delete(m.values, h)
	m.dropped = append(m.dropped, h.Index)
}

// loose is what Drop and Push ask for ahead.
func (m *model) loose(h api.Handle) api.Errno {
	if !m.good(h) {
		return api.ErrHandle
	}
	if q, _ := m.at(h); q >= 0 {
		return api.ErrQueue
	}
	return api.OK
}

// stands is what Remove and Mark ask for ahead.
func (m *model) stands(q int, h api.Handle) api.Errno {
	if !m.good(h) {
		return api.ErrHandle
	}
	if p, _ := m.at(h); p != q {
		return api.ErrQueue
	}
	return api.OK
}

func (m *model) drop(h api.Handle) api.Errno {
	why := m.loose(h)
	if why == api.OK {
		m.release(h)
	}
	return why
}

func (m *model) set(h api.Handle, v int) api.Errno {
	if !m.good(h) {
		return api.ErrHandle
	}
	m.values[h] = v
	return api.OK
}

func (m *model) push(q int, h api.Handle) api.Errno {
	why := m.loose(h)
	if why == api.OK {
		m.queues[q] = append(m.queues[q], seat{h: h})
	}
	return why
}

func (m *model) remove(q int, h api.Handle) api.Errno {
	why := m.stands(q, h)
	if why == api.OK {
		_, i := m.at(h)
		m.queues[q] = slices.Delete(m.queues[q], i, i+1)
	}
	return why
}

func (m *model) mark(q int, h api.Handle) api.Errno {
	why := m.stands(q, h)
	if why == api.OK {
		_, i := m.at(h)
		m.queues[q][i].dead = true
	}
	return why
}

func (m *model) first(q, from int) (api.Handle, bool) {
	for _, s := range m.queues[q][from:] {
		if !s.dead {
			return s.h, true
		}
	}
	return api.Handle{}, false
}

func (m *model) next(q int, h api.Handle) (api.Handle, bool) {
	if m.stands(q, h) != api.OK {
		return api.Handle{}, false
	}
	_, i := m.at(h)
	return m.first(q, i+1)
}

func (m *model) pop(q int) (api.Handle, bool) {
	h, ok := m.first(q, 0)
	if !ok {
		return h, ok
	}
	_, i := m.at(h)
	for _, s := range m.queues[q][:i] {
		m.release(s.h)
	}
	m.queues[q] = slices.Clone(m.queues[q][i+1:])
	return h, true
}

func (m *model) sweep(q int) int {
	var left []seat
	for _, s := range m.queues[q] {
		if s.dead {
			m.release(s.h)
		} else {
			left = append(left, s)
		}
	}
	n := len(m.queues[q]) - len(left)
	m.queues[q] = left
	return n
}

func (m *model) all(q int) []api.Handle {
	var l []api.Handle
	for _, s := range m.queues[q] {
		if !s.dead {
			l = append(l, s.h)
		}
	}
	return l
}

// pair is an arena with its queues, the model of it, and all handles that were ever told or made up.
type pair struct {
	t     *testing.T
	a     *arena.Arena[int]
	qs    []*arena.Queue[int]
	m     *model
	room  int
	known []api.Handle
}

func newPair(t *testing.T, room, queues int) *pair {
	t.Helper()
	a, why := arena.New[int](room)
	if a == nil || why != api.OK {
		t.Fatal(room, why)
	}
	p := &pair{t: t, a: a, m: newModel(room, queues), room: room}
	for range queues {
		p.qs = append(p.qs, a.NewQueue())
	}
	for _, i := range []uint32{0, uint32(room - 1), uint32(room), api.MaxNodes, 1 << 31, math.MaxUint32} {
		for _, life := range []uint32{0, 1, 2, 1 << 31, math.MaxUint32} {
			p.known = append(p.known, api.Handle{Index: i, Life: life})
		}
	}
	return p
}

func (p *pair) same(what string, got, want any) {
	p.t.Helper()
	if got != want {
		p.t.Fatalf("%s: got %v, wanted %v", what, got, want)
	}
}

// answer is a handle and what stands beside it.
type answer struct {
	h    api.Handle
	why  api.Errno
	good bool
}

func (p *pair) take(v int) (api.Handle, api.Errno) {
	p.t.Helper()
	h, why := p.a.Take(v)
	want, whyNot := p.m.take(v)
	p.same("Take", answer{h: h, why: why}, answer{h: want, why: whyNot})
	if why == api.OK {
		p.known = append(p.known, h)
	}
	return h, why
}

func (p *pair) drop(h api.Handle) api.Errno {
	p.t.Helper()
	why := p.a.Drop(h)
	p.same("Drop", why, p.m.drop(h))
	return why
}

func (p *pair) set(h api.Handle, v int) api.Errno {
	p.t.Helper()
	why := p.a.Set(h, v)
	p.same("Set", why, p.m.set(h, v))
	return why
}

func (p *pair) push(q int, h api.Handle) api.Errno {
	p.t.Helper()
	why := p.qs[q].Push(h)
	p.same("Push", why, p.m.push(q, h))
	return why
}

func (p *pair) remove(q int, h api.Handle) api.Errno {
	p.t.Helper()
	why := p.qs[q].Remove(h)
	p.same("Remove", why, p.m.remove(q, h))
	return why
}

func (p *pair) mark(q int, h api.Handle) api.Errno {
	p.t.Helper()
	why := p.qs[q].Mark(h)
	p.same("Mark", why, p.m.mark(q, h))
	return why
}

func (p *pair) pop(q int) (api.Handle, bool) {
	p.t.Helper()
	h, ok := p.qs[q].Pop()
	want, is := p.m.pop(q)
	p.same("Pop", answer{h: h, good: ok}, answer{h: want, good: is})
	return h, ok
}

func (p *pair) sweep(q int) int {
	p.t.Helper()
	n := p.qs[q].Sweep()
	p.same("Sweep", n, p.m.sweep(q))
	return n
}

// looked holds all that can be seen against the model.
func (p *pair) looked() {
	p.t.Helper()
	p.same("Len", p.a.Len(), len(p.m.values))
	p.same("Free", p.a.Free(), p.room-len(p.m.values))
	for _, h := range p.known {
		v, why := p.a.Get(h)
		want, ok := p.m.values[h]
		p.same("Get", [2]any{v, why == api.OK}, [2]any{want, ok})
		if !ok {
			p.same("Get", why, api.ErrHandle)
		}
	}
	for q := range p.qs {
		p.lookedQueue(q)
	}
}

func (p *pair) lookedQueue(q int) {
	p.t.Helper()
	want := p.m.all(q)
	if got := p.qs[q].All(); !slices.Equal(got, want) {
		p.t.Fatalf("All: got %v, wanted %v", got, want)
	}
	p.same("Live", p.qs[q].Live(), len(want))
	p.same("Dead", p.qs[q].Dead(), len(p.m.queues[q])-len(want))
	h, ok := p.qs[q].First()
	first, is := p.m.first(q, 0)
	p.same("First", answer{h: h, good: ok}, answer{h: first, good: is})
	for _, k := range p.known {
		h, ok := p.qs[q].Next(k)
		next, is := p.m.next(q, k)
		p.same("Next", answer{h: h, good: ok}, answer{h: next, good: is})
	}
}

// filled is a pair whose first queue has n nodes, of the values 0 to n - 1, and whose second queue has none.
func filled(t *testing.T, room, n int) (*pair, []api.Handle) {
	t.Helper()
	p := newPair(t, room, 2)
	var l []api.Handle
	for i := range n {
		h, why := p.take(i)
		if why != api.OK || p.push(0, h) != api.OK {
			t.Fatal(i, why)
		}
		l = append(l, h)
	}
	p.looked()
	return p, l
}

// handle is one that is known, most often one of the last that were taken.
func (p *pair) handle(x *mixer) api.Handle {
	if n := min(len(p.known), 2*p.room); x.below(4) > 0 {
		return p.known[len(p.known)-1-x.below(n)]
	}
	return p.known[x.below(len(p.known))]
}

// step makes any call that changes something.
func (p *pair) step(x *mixer) {
	p.t.Helper()
	q := x.below(len(p.qs))
	switch x.below(12) {
	case 0, 1, 2:
		p.take(x.below(1000))
	case 3:
		p.drop(p.handle(x))
	case 4:
		p.set(p.handle(x), x.below(1000))
	case 5, 6, 7:
		p.push(q, p.handle(x))
	case 8:
		p.remove(q, p.handle(x))
	case 9:
		p.mark(q, p.handle(x))
	case 10:
		p.pop(q)
	case 11:
		p.sweep(q)
	}
}
