package ladder

import (
	"iter"

	"bourse/api"
	"bourse/arena"
	"bourse/bitmap"
	"bourse/index"
)

// store keeps each order in a node of an arena, the nodes of one price in a queue of its side's ladder, and where an order stands under its ID.
type store struct {
	sides  [2]ladder
	nodes  *arena.Arena[order]
	places *index.Index[api.Handle]
}

// order is what a node holds.
type order struct {
	api.Resting
	side int
}

// roomFor is room for so many orders, and for as many dead nodes beside them.
func roomFor(capacity int) *store {
	capacity = max(capacity, 1) // a book that New did not make has none, and is asked all the same
	nodes, _ := arena.New[order](2 * capacity)
	places, _ := index.New[api.Handle](capacity)
	buys := ladder{next: (*bitmap.Map).Below, first: api.Ticks - 1, step: -1}
	sells := ladder{next: (*bitmap.Map).Above, first: 0, step: 1}
	return &store{[2]ladder{buys, sells}, nodes, places}
}

// side is the ladder of one side, which must be one of the two.
func (s *store) side(side int) *ladder { return &s.sides[side-api.Buy] }

// levels goes through the levels of a side, the best first; one that is neither has none.
func (s *store) levels(side int) iter.Seq[*level] {
	if side != api.Buy && side != api.Sell {
		return func(func(*level) bool) {}
	}
	return s.side(side).levels()
}

// All goes through the orders of a side in their priority.
func (s *store) All(side int) iter.Seq[api.Resting] {
	return func(yield func(api.Resting) bool) {
		for l := range s.levels(side) {
			for h, ok := l.First(); ok; h, ok = l.Next(h) {
				if o, _ := s.nodes.Get(h); !yield(o.Resting) {
					return
				}
			}
		}
	}
}

// Levels goes through what is told of a side's levels, the best first.
func (s *store) Levels(side int) iter.Seq[api.Level] {
	return func(yield func(api.Level) bool) {
		for l := range s.levels(side) {
			if !yield(api.Level{Price: l.price, Qty: l.shown, Count: l.Live()}) {
				return
			}
		}
	}
}

// at is the order of a node, and its level.
func (s *store) at(h api.Handle) (order, *level) {
	o, _ := s.nodes.Get(h)
	return o, s.side(o.side).at(o.Price)
}

// Find is an order and its side, and whether there is one of that ID.
func (s *store) Find(id uint64) (api.Resting, int, bool) {
	h, there := s.places.Get(id)
	if !there {
		return api.Resting{}, 0, false
	}
	o, _ := s.nodes.Get(h)
	return o.Resting, o.side, true
}

// Len is how many orders there are.
func (s *store) Len() int { return s.places.Len() }

// Enqueue lets an order rest, behind all others at its price.
func (s *store) Enqueue(side int, r api.Resting) {
	// Of twice as many nodes as there may be orders some are dead, if none is free.
	if s.nodes.Free() == 0 {
		s.sweep()
	}
	h, _ := s.nodes.Take(order{r, side})
	s.places.Put(r.ID, h)
	ladder := s.side(side)
	if !ladder.prices.Has(r.Price) {
		ladder.open(r.Price, s.nodes.NewQueue())
	}
	l := ladder.at(r.Price)
	l.Push(h)
	l.shown += r.Visible
}

// sweep drops the dead nodes of all levels.
func (s *store) sweep() {
	for i := range s.sides {
		for l := range s.sides[i].levels() {
			l.Sweep()
		}
	}
}

// Set gives an order that rests other quantities, where it stands.
func (s *store) Set(r api.Resting) {
	h, _ := s.places.Get(r.ID)
	o, l := s.at(h)
	l.shown += r.Visible - o.Visible
	o.Resting = r
	s.nodes.Set(h, o)
}

// Pop takes the first order of a side out, and gives its node back.
func (s *store) Pop(side int) {
	for l := range s.levels(side) {
		h, _ := l.Pop()
		o, _ := s.nodes.Get(h)
		s.nodes.Drop(h)
		s.gone(o, l)
		return
	}
}

// Drop takes an order out: its node is dead from now on, and is swept with others.
func (s *store) Drop(id uint64) {
	h, _ := s.places.Get(id)
	o, l := s.at(h)
	l.Mark(h)
	s.gone(o, l)
}

// gone forgets an order that is out of its level, and the level with its dead nodes if that was the last one there.
func (s *store) gone(o order, l *level) {
	s.places.Drop(o.ID)
	l.shown -= o.Visible
	if l.Live() == 0 {
		l.Sweep()
		s.side(o.side).close(l.price)
	}
}
