package auction

import (
	"cmp"
	"slices"

	"bourse/api"
)

// prices is those that may be chosen, rising: the Limits' and the reference.
func (c *Call) prices() []int {
	l := []int{c.reference}
	for _, s := range c.sides {
		for _, i := range s {
			if i.Type == api.Limit {
				l = append(l, i.Price)
			}
		}
	}
	slices.Sort(l)
	return slices.Compact(l)
}

// candidates is what each price that may be chosen would come to, the prices rising.
func (c *Call) candidates() []api.Quote {
	buys, sells := c.of(api.Buy), c.of(api.Sell)
	// Summed up once: a full call has thousands of prices.
	bought, sold := buys.sums(), sells.sums()
	var l []api.Quote
	for _, price := range c.prices() {
		l = append(l, quoteAt(price, bought[buys.willing(price)], sold[sells.willing(price)]))
	}
	return l
}

// quoteAt is what a price comes to at which so much would be bought and sold.
func quoteAt(price int, bought, sold uint64) api.Quote {
	q := api.Quote{Price: price, Volume: min(bought, sold)}
	switch {
	case bought > sold:
		q.Surplus, q.Side = bought-sold, api.Buy
	case sold > bought:
		q.Surplus, q.Side = sold-bought, api.Sell
	}
	return q
}

// decided is the one of several quotes of one volume that the rules choose; their prices rise.
func decided(l []api.Quote, reference int) api.Quote {
	if len(l) == 1 {
		return by(api.ByVolume, l[0])
	}
	l = least(l, func(q api.Quote) uint64 { return q.Surplus })
	if len(l) == 1 {
		return by(api.BySurplus, l[0])
	}
	switch pressure(l) {
	case api.Buy:
		return by(api.ByPressure, l[len(l)-1])
	case api.Sell:
		return by(api.ByPressure, l[0])
	}
	near := least(l, func(q api.Quote) int { return max(q.Price-reference, reference-q.Price) })
	// Of two that are as near, the lower one stands first.
	return by(api.ByReference, near[0])
}

// by is a quote with the rule that decided.
func by(rule int, q api.Quote) api.Quote {
	q.Rule = rule
	return q
}

// pressure is the side on which the surplus of all quotes stands; 0, if there is no such side.
func pressure(l []api.Quote) int {
	side := l[0].Side
	if slices.ContainsFunc(l, func(q api.Quote) bool { return q.Side != side }) {
		return 0
	}
	return side
}

// least is those of a list whose mark is the least, as they stand there.
func least[T any, M cmp.Ordered](l []T, mark func(T) M) []T {
	return best(l, func(a, b T) int { return cmp.Compare(mark(a), mark(b)) })
}

// most is those of a list whose mark is the greatest, as they stand there.
func most[T any, M cmp.Ordered](l []T, mark func(T) M) []T {
	return best(l, func(a, b T) int { return cmp.Compare(mark(b), mark(a)) })
}

// best is those of a list that none comes ahead of; there must be one. (A list of candidates is never empty: it has the reference.)
func best[T any](l []T, compare func(a, b T) int) []T {
	first := slices.MinFunc(l, compare)
	return slices.DeleteFunc(slices.Clone(l), func(x T) bool { return compare(x, first) != 0 })
}
