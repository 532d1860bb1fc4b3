package treebook

import "bourse/api"

// order is one that comes or rests. Of one that comes, Visible is all that is left of it.
type order struct {
	api.Resting
	side          int
	level         *level
	ahead, behind *order
}

// level is the orders that rest at one price of a side, and what is told of them all.
type level struct {
	api.Level
	first, last *order
}

// push puts an order behind all others.
func (l *level) push(o *order) {
	o.level, o.ahead, o.behind = l, l.last, nil
	if l.last == nil {
		l.first = o
	} else {
		l.last.behind = o
	}
	l.last = o
	l.Qty += o.Visible
	l.Count++
}

// remove lets those ahead of an order and behind it know one another in its place.
func (l *level) remove(o *order) {
	if o.ahead == nil {
		l.first = o.behind
	} else {
		o.ahead.behind = o.behind
	}
	if o.behind == nil {
		l.last = o.ahead
	} else {
		o.behind.ahead = o.ahead
	}
	l.Qty -= o.Visible
	l.Count--
}

// show parts a quantity into what an order shows at once and what it holds back.
func (o *order) show(qty uint64) {
	o.Visible = qty
	if o.Peak != 0 {
		o.Visible = min(o.Peak, qty)
	}
	o.Hidden = qty - o.Visible
}

// mayRest tells whether what is left of an order stays in the book.
func (o *order) mayRest() bool { return o.Type == api.Limit || o.Type == api.PostOnly }

// reaches tells whether an order that comes may trade at a price.
func (o *order) reaches(price int) bool {
	switch {
	case o.Type == api.Market:
		return true
	case o.side == api.Buy:
		return price <= o.Price
	}
	return price >= o.Price
}

// opposite is the side that an order meets.
func (o *order) opposite() int { return api.Buy + api.Sell - o.side }

// enqueue lets an order rest, behind all others at its price.
func (b *Book) enqueue(o *order) {
	tree := b.tree(o.side)
	l, there := tree.Get(o.Price)
	if !there {
		l = &level{Level: api.Level{Price: o.Price}}
		tree.Put(o.Price, l)
	}
	l.push(o)
	b.orders[o.ID] = o
}

// drop takes an order out, and its level if it was the last one there.
func (b *Book) drop(o *order) {
	delete(b.orders, o.ID)
	o.level.remove(o)
	if o.level.Count == 0 {
		b.tree(o.side).Drop(o.Price)
	}
}
