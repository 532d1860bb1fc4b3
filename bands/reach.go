package bands

import "bourse/api"

// staysWithin tells of most commands that they can't leave the bands, since all their trades would be between two prices that are within. Of the others it does not know: they must be tried, for which all orders are copied. (What the engine refuses never leaves them.)
func (g *Guard) staysWithin(c api.Command) bool {
	if !brings(c) {
		return true
	}
	if g.namesBeyond(c) {
		return false
	}
	side := g.sideOf(c)
	best, there := g.Best(api.Buy + api.Sell - side)
	last := worst(c, side)
	if !there || !reaches(side, last, best.Price) {
		return true
	}
	return g.mayTrade(best.Price) && g.mayTrade(last)
}

// namesBeyond tells whether a command that brings an order names a price out of the static band.
func (g *Guard) namesBeyond(c api.Command) bool {
	return !isMarket(c) && !staticOf(g.kept).has(c.Price)
}

// sideOf is the side of the order that would come, or none.
func (g *Guard) sideOf(c api.Command) int {
	if c.Kind == api.New {
		return c.Side
	}
	_, side, _ := g.Find(c.Target)
	return side
}

// worst is the price that is the worst for an order of those at which it may trade.
func worst(c api.Command, side int) int {
	switch {
	case !isMarket(c):
		return c.Price
	case side == api.Buy:
		return api.Ticks - 1
	}
	return 0
}

// reaches tells whether an order that may trade at one price may trade at another one.
func reaches(side, worst, price int) bool {
	if side == api.Buy {
		return price <= worst
	}
	return price >= worst
}

// mayTrade tells whether a price is in both bands.
func (g *Guard) mayTrade(price int) bool {
	return staticOf(g.kept).has(price) && dynamicOf(g.kept).has(price)
}
