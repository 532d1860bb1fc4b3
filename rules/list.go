package rules

import (
	"slices"
	"sort"

	"bourse/api"
)

// list is the orders of a side in their priority. (Pointers, since a level of icebergs is turned round and round.)
type list []*api.Resting

// listOf is a list of orders that nobody else knows.
func listOf(orders []api.Resting) list {
	l := make(list, 0, len(orders))
	for _, r := range orders {
		l = append(l, &r)
	}
	return l
}

// orders is what stands in the list.
func (l list) orders() []api.Resting {
	orders := make([]api.Resting, 0, len(l))
	for _, r := range l {
		orders = append(orders, *r)
	}
	return orders
}

func isSide(side int) bool { return side == api.Buy || side == api.Sell }

func other(side int) int {
	if side == api.Buy {
		return api.Sell
	}
	return api.Buy
}

// better tells whether an order of a side stands ahead of another one by their prices.
func better(side, price, than int) bool {
	if side == api.Buy {
		return price > than
	}
	return price < than
}

// find is where the order of an ID stands, or -1.
func (l list) find(id uint64) int {
	return slices.IndexFunc(l, func(r *api.Resting) bool { return r.ID == id })
}

// behind is how many orders stand at a price or ahead of it: an order that is enqueued at that price comes behind them.
func (l list) behind(side, price int) int {
	return sort.Search(len(l), func(at int) bool { return better(side, price, l[at].Price) })
}

// enqueue puts an order behind all others at its price.
func (l *list) enqueue(side int, r api.Resting) {
	*l = slices.Insert(*l, l.behind(side, r.Price), &r)
}

// drop takes an order out.
func (l *list) drop(at int) { *l = slices.Delete(*l, at, at+1) }

// again puts the first order behind all others at its price.
func (l list) again(side int) {
	first := l[0]
	last := l.behind(side, first.Price) - 1
	copy(l[:last], l[1:])
	l[last] = first
}

// level is what stands in a list of one price.
func (l list) level() api.Level {
	v := api.Level{Price: l[0].Price, Count: len(l)}
	for _, r := range l {
		v.Qty += r.Visible
	}
	return v
}
