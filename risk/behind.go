package risk

import "bourse/api"

// Behind is told what the book told, event by event.
func (d *Desk) Behind(l []api.Event) {
	d.ready()
	for _, e := range l {
		switch e.Kind {
		case api.EvAck:
			d.opens(e)
		case api.EvTrade:
			d.trades(e.ID, e.Qty, e.Side == api.Buy)
			d.trades(e.Other, e.Qty, e.Side != api.Buy)
		case api.EvCancel:
			d.lessens(e.ID, e.Qty)
		}
	}
}

// opens takes an order that was acked, in the place of one of its ID.
func (d *Desk) opens(e api.Event) {
	delete(d.orders, e.ID)
	if e.Qty > 0 {
		d.orders[e.ID] = order{member: e.Member, side: e.Side, rest: e.Qty}
	}
}

// trades counts so much as bought or sold by the member whose open order that is. (The event says on which side, not the order.)
func (d *Desk) trades(id, qty uint64, buys bool) {
	o, ok := d.orders[id]
	if !ok {
		return
	}
	had := d.deals[o.member]
	if buys {
		had.bought += qty
	} else {
		had.sold += qty
	}
	d.deals[o.member] = had
	d.lessens(id, qty)
}

// lessens takes so much off an open order's rest; where nothing is left of it, it is not open any more.
func (d *Desk) lessens(id, qty uint64) {
	o, ok := d.orders[id]
	if !ok {
		return
	}
	if o.rest <= qty {
		delete(d.orders, id)
		return
	}
	o.rest -= qty
	d.orders[id] = o
}
