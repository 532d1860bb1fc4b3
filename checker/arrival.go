package checker

import "bourse/api"

// arrival is an order that was acked, and of which something must still be told.
type arrival struct {
	ack  api.Event
	left uint64
	// void: an FOK of which nothing was told yet, and that would not trade whole.
	void bool
	// met: one of its own member was cancelled, and it must be as well.
	met bool
}

// reaches tells whether an order that comes, by its EvAck, may trade at a price of the other side.
func reaches(ack api.Event, price int) bool {
	return ack.Type == api.Market || !beats(ack.Side, price, ack.Price)
}

// meets tells whether there is an order that the one that comes would meet.
func (x *Checker) meets(ack api.Event) bool {
	first := x.side(other(ack.Side)).first()
	return first != nil && reaches(ack, first.Price)
}

// own tells whether an order that rests may not trade with the one that comes.
func (x *Checker) own(ack api.Event, r *api.Resting) bool {
	return x.config.Meet != api.MeetTrade && ack.Member != 0 && ack.Member == r.Member
}

// due is what must come next of the order that arrives, and whether anything must.
func (x *Checker) due() (api.Event, bool) {
	a, ack := x.arriving, x.arriving.ack
	ends := func(id, qty uint64, reason int) (api.Event, bool) {
		return api.Event{Seq: x.seq + 1, Kind: api.EvCancel, ID: id, Qty: qty, Reason: reason}, true
	}
	first := x.side(other(ack.Side)).first()
	switch {
	case a.void:
		return ends(ack.ID, a.left, api.ByFill)
	case first != nil && first.Visible == 0:
		// Only the one that was last traded with shows nothing, and it stands first until it is refreshed.
		return api.Event{Seq: x.seq + 1, Kind: api.EvRefresh, ID: first.ID, Price: first.Price, Qty: showing(first.Peak, first.Hidden)}, true
	case a.left == 0:
		return api.Event{}, false
	case a.met:
		return ends(ack.ID, a.left, api.ByMeet)
	case !x.meets(ack) && rests(ack.Type):
		return api.Event{}, false
	case !x.meets(ack):
		return ends(ack.ID, a.left, api.ByRest)
	case !x.own(ack, first):
		return api.Event{Seq: x.seq + 1, Kind: api.EvTrade, ID: ack.ID, Other: first.ID, Side: ack.Side, Price: first.Price, Qty: min(a.left, first.Visible)}, true
	case x.config.Meet == api.MeetNewest:
		return ends(ack.ID, a.left, api.ByMeet)
	}
	return ends(first.ID, all(first), api.ByMeet)
}

// fills tells whether an order that comes would trade whole, were it an IOC.
func (x *Checker) fills(ack api.Event) bool {
	// At the price of an order of its own that ends it only what is shown ahead of that one is had: whatever is refreshed stands behind it.
	var had, shown uint64
	price := -1
	for _, r := range *x.side(other(ack.Side)) {
		if !reaches(ack, r.Price) {
			break
		}
		if r.Price != price {
			price, shown = r.Price, had
		}
		switch {
		case !x.own(ack, r):
			had += all(r)
			shown += r.Visible
		case x.config.Meet != api.MeetOldest:
			return shown >= ack.Qty
		}
	}
	return had >= ack.Qty
}
