package checker

import (
	"slices"
	"sort"

	"bourse/api"
)

// queue is the orders of a side, the next to trade first.
type queue []*api.Resting

// orders is what stands in the queue.
func (q queue) orders() []api.Resting {
	orders := make([]api.Resting, 0, len(q))
	for _, r := range q {
		orders = append(orders, *r)
	}
	return orders
}

// first is the one that stands first, or nil.
func (q queue) first() *api.Resting {
	if len(q) == 0 {
		return nil
	}
	return q[0]
}

// find is where the order of an ID stands, or -1.
func (q queue) find(id uint64) int {
	return slices.IndexFunc(q, func(r *api.Resting) bool { return r.ID == id })
}

// put lets an order stand behind all others at its price.
func (q *queue) put(side int, r *api.Resting) {
	at := sort.Search(len(*q), func(i int) bool { return beats(side, r.Price, (*q)[i].Price) })
	*q = slices.Insert(*q, at, r)
}

// drop takes an order out.
func (q *queue) drop(at int) { *q = slices.Delete(*q, at, at+1) }

// beats tells whether a price of a side stands ahead of another one.
func beats(side, price, than int) bool {
	if side == api.Buy {
		return price > than
	}
	return price < than
}

// all is what an order shows and hides together.
func all(r *api.Resting) uint64 { return r.Visible + r.Hidden }

// showing is how much of a quantity is shown at once with a peak (0: all).
func showing(peak, qty uint64) uint64 {
	if peak == 0 {
		return qty
	}
	return min(peak, qty)
}
