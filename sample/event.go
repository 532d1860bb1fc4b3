package sample

import "bourse/api"

// Acked tells that a New was taken.
func Acked(c api.Command) api.Event {
	return api.Event{Kind: api.EvAck, ID: c.ID, Member: c.Member, Side: c.Side, Type: c.Type, Price: c.Price, Qty: c.Qty, Peak: c.Peak}
}

// Rejected tells that a command was refused, by the numbers that its kind has.
func Rejected(c api.Command, why api.Errno) api.Event {
	e := api.Event{Kind: api.EvReject, Code: why}
	if c.Kind != api.Cancel {
		e.ID = c.ID
	}
	if c.Kind != api.New {
		e.Target = c.Target
	}
	return e
}

// Traded tells of a trade: the order that came, the other one, and the side of the one that came.
func Traded(id, other uint64, side, price int, qty uint64) api.Event {
	return api.Event{Kind: api.EvTrade, ID: id, Other: other, Side: side, Price: price, Qty: qty}
}

// Ended tells that so much of an order was cancelled.
func Ended(id, qty uint64, reason int) api.Event {
	return api.Event{Kind: api.EvCancel, ID: id, Qty: qty, Reason: reason}
}

// Refreshed tells that an order shows so much anew.
func Refreshed(id uint64, price int, qty uint64) api.Event {
	return api.Event{Kind: api.EvRefresh, ID: id, Price: price, Qty: qty}
}

// Numbered is these events as they are told behind one of the number seq.
func Numbered(seq uint64, l ...api.Event) []api.Event {
	var told []api.Event
	for _, e := range l {
		seq++
		e.Seq = seq
		told = append(told, e)
	}
	return told
}
