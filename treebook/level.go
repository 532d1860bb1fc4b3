package treebook

import "bourse/api"

// order is one that rests.
type order struct {
	api.Resting
	side          int
	level         *level
	ahead, behind *order
}

// level is the orders that rest at one price of a side, and what is told of them all.
type level struct {
	api.Level
	first, last *order
}

// push puts an order behind all others.
func (l *level) push(o *order) {
	o.level, o.ahead = l, l.last
	if l.last == nil {
		l.first = o
	} else {
		l.last.behind = o
	}
	l.last = o
	l.Qty += o.Visible
	l.Count++
}

// remove lets those ahead of an order and behind it know one another in its place.
func (l *level) remove(o *order) {
	if o.ahead == nil {
		l.first = o.behind
	} else {
		o.ahead.behind = o.behind
	}
	if o.behind == nil {
		l.last = o.ahead
	} else {
		o.behind.ahead = o.ahead
	}
	l.Qty -= o.Visible
	l.Count--
}
