package treebook

import (
	"iter"

	"bourse/api"
	"bourse/avl"
)

// trees keeps the levels of the buys and of the sells each in a tree, by their prices, and the orders by their IDs.
type trees struct {
	sides  [2]avl.Tree[*level]
	orders map[uint64]*order
}

// tree is the levels of one side, which must be one of the two.
func (t *trees) tree(side int) *avl.Tree[*level] { return &t.sides[side-api.Buy] }

// levels goes through the levels of a side, the best first, as they are when the going begins; of neither side there are none.
func (t *trees) levels(side int) iter.Seq2[int, *level] {
	switch side {
	case api.Buy:
		return t.tree(side).Back()
	case api.Sell:
		return t.tree(side).All()
	}
	return func(func(int, *level) bool) {}
}

// All goes through the orders of a side in their priority.
func (t *trees) All(side int) iter.Seq[api.Resting] {
	return func(yield func(api.Resting) bool) {
		for _, l := range t.levels(side) {
			for o := l.first; o != nil; o = o.behind {
				if !yield(o.Resting) {
					return
				}
			}
		}
	}
}

// Levels goes through what is told of a side's levels, the best first.
func (t *trees) Levels(side int) iter.Seq[api.Level] {
	return func(yield func(api.Level) bool) {
		for _, l := range t.levels(side) {
			if !yield(l.Level) {
				return
			}
		}
	}
}

// Find is an order and its side, and whether there is one of that ID.
func (t *trees) Find(id uint64) (api.Resting, int, bool) {
	if o := t.orders[id]; o != nil {
		return o.Resting, o.side, true
	}
	return api.Resting{}, 0, false
}

// Len is how many orders there are.
func (t *trees) Len() int { return len(t.orders) }

// Enqueue lets an order rest, behind all others at its price.
func (t *trees) Enqueue(side int, r api.Resting) {
	tree := t.tree(side)
	l, there := tree.Get(r.Price)
	if !there {
		l = &level{Level: api.Level{Price: r.Price}}
		tree.Put(r.Price, l)
	}
	o := &order{Resting: r, side: side}
	l.push(o)
	t.orders[r.ID] = o
}

// Set gives an order that rests other quantities, where it stands.
func (t *trees) Set(r api.Resting) {
	o := t.orders[r.ID]
	o.level.Qty += r.Visible - o.Visible
	o.Resting = r
}

// Pop takes the first order of a side out.
func (t *trees) Pop(side int) {
	for _, l := range t.levels(side) {
		t.Drop(l.first.ID)
		return
	}
}

// Drop takes an order out, and its level if it was the last one there.
func (t *trees) Drop(id uint64) {
	o := t.orders[id]
	delete(t.orders, id)
	o.level.remove(o)
	if o.level.Count == 0 {
		t.tree(o.side).Drop(o.Price)
	}
}
