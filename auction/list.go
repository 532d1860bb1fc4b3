package auction

import (
	"slices"
	"sort"

	"bourse/api"
)

// list is the interests of a side, in their priority.
type list []api.Interest

// ahead tells whether an interest stands ahead of another one of its side, however late it was entered.
func ahead(i, of api.Interest) bool {
	switch {
	case i.Type != of.Type:
		return i.Type == api.Market
	case i.Side == api.Buy:
		return i.Price > of.Price
	}
	return i.Price < of.Price
}

// accepts tells whether an interest would trade at a price.
func accepts(i api.Interest, price int) bool {
	switch {
	case i.Type == api.Market:
		return true
	case i.Side == api.Buy:
		return i.Price >= price
	}
	return i.Price <= price
}

// enter puts an interest behind all that it does not stand ahead of, so that the list stays sorted.
func (l *list) enter(i api.Interest) {
	at := sort.Search(len(*l), func(at int) bool { return ahead(i, (*l)[at]) })
	*l = slices.Insert(*l, at, i)
}

// find is where the interest of an ID stands, or -1.
func (l list) find(id uint64) int {
	return slices.IndexFunc(l, func(i api.Interest) bool { return i.ID == id })
}

// drop takes an interest out.
func (l *list) drop(at int) api.Interest {
	i := (*l)[at]
	*l = slices.Delete(*l, at, at+1)
	return i
}

// willing is how many interests would trade at a price. They are the first ones: who stands behind one that would not asks for a better price still.
func (l list) willing(price int) int {
	return sort.Search(len(l), func(at int) bool { return !accepts(l[at], price) })
}

// would is how much would be traded at a price, if there were enough of the other side.
func (l list) would(price int) uint64 {
	var qty uint64
	for _, i := range l[:l.willing(price)] {
		qty += i.Qty
	}
	return qty
}

// sums is how much the first n interests have together, for each n from 0 on.
func (l list) sums() []uint64 {
	sums := make([]uint64, 1, len(l)+1)
	for n, i := range l {
		sums = append(sums, sums[n]+i.Qty)
	}
	return sums
}

// take lessens what is left of an interest, and tells whether that is nothing.
func (l list) take(at int, qty uint64) bool {
	l[at].Qty -= qty
	return l[at].Qty == 0
}
