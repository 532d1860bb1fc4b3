package surveil

import "bourse/api"

// finder is told what is found at an event: by which rule, of whom, and how many.
type finder func(rule int, member uint32, count int)

// see does one event; it has its count already.
func (w *Watch) see(e api.Event, find finder) {
	switch {
	case e.Kind == api.EvAck:
		w.acked(e, find)
	case e.Kind == api.EvTrade:
		w.traded(e, find)
	case e.Kind == api.EvCancel && e.Reason == api.ByOwner:
		w.cancelled(e, find)
	}
}

func (w *Watch) acked(e api.Event, find finder) {
	w.orders[e.ID] = known{placed: placed{e.Member, e.Side}}
	t := w.trader(e.Member)
	t.Orders++
	if t.Orders >= w.how.Least && t.Orders > w.how.Ratio*t.Trades {
		find(api.RuleRatio, e.Member, t.Orders)
	}
}

func (w *Watch) traded(e api.Event, find finder) {
	came, rested := w.deals(e.ID), w.deals(e.Other)
	buys, sells := w.trader(rested), w.trader(came)
	if e.Side == api.Buy {
		buys, sells = sells, buys
	}
	buys.Trades++
	buys.Bought += e.Qty
	buys.lastBuy = w.count
	sells.Trades++
	sells.Sold += e.Qty
	sells.lastSale = w.count
	if came == rested {
		find(api.RuleWash, came, 0)
	}
	price := tick(e.Price)
	w.trades = append(w.trades, trade{w.count, price})
	if far := apart(price, w.trades[0].price); far > w.how.Move {
		find(api.RuleJump, came, far)
	}
}

func (w *Watch) cancelled(e api.Event, find finder) {
	o, ok := w.orders[e.ID]
	if !ok {
		return
	}
	t := w.trader(o.member)
	t.Cancels++
	if o.traded {
		return
	}
	w.cancels = append(w.cancels, cancel{o.placed, w.count})
	w.layers[o.placed]++
	other := t.lastBuy
	if o.side == api.Buy {
		other = t.lastSale
	}
	if k := w.layers[o.placed]; k >= w.how.Layers && w.among(other) {
		find(api.RuleLayer, o.member, k)
	}
}

// trader is where it is written what a member does. What nobody does is written where none will look.
func (w *Watch) trader(member uint32) *trader {
	t := w.traders[member]
	if t == nil {
		t = &trader{}
		if member != 0 {
			w.traders[member] = t
		}
	}
	return t
}

// deals notes that an order traded, and tells whose it is.
func (w *Watch) deals(id uint64) uint32 {
	o, ok := w.orders[id]
	if ok {
		o.traded = true
		w.orders[id] = o
	}
	return o.member
}

// among tells whether an event of that count is one of the last.
func (w *Watch) among(at uint64) bool { return at > 0 && w.count-at < uint64(w.how.Span) }

// forget lets go of what is no more among the last events.
func (w *Watch) forget() {
	for len(w.trades) > 0 && !w.among(w.trades[0].at) {
		w.trades = w.trades[1:]
	}
	for len(w.cancels) > 0 && !w.among(w.cancels[0].at) {
		of := w.cancels[0].placed
		w.cancels = w.cancels[1:]
		w.layers[of]--
		if w.layers[of] == 0 {
			delete(w.layers, of)
		}
	}
}

// tick is a price, or 0 where there can't be such a one.
func tick(price int) int {
	if price < 0 || price >= api.Ticks {
		return 0
	}
	return price
}

// apart is by how much two prices differ.
func apart(a, b int) int { return max(a, b) - min(a, b) }
