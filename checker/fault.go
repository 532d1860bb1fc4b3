package checker

import "bourse/api"

// fault is why an event can't stand next in the log, or OK.
func (x *Checker) fault(e api.Event) api.Errno {
	switch {
	case e.Seq != x.seq+1:
		return api.ErrSeq
	case x.arriving != nil:
		must, _ := x.due()
		return differs(e, must)
	case x.replaced != nil:
		if e.Kind != api.EvAck || *x.replaced != (owed{e.Member, e.Side, e.Type}) {
			return api.ErrPlace
		}
		return x.faultOfAck(e)
	}
	switch e.Kind {
	case api.EvReject:
		return x.faultOfReject(e)
	case api.EvCancel:
		return x.faultOfCancel(e)
	case api.EvAck:
		return x.faultOfAck(e)
	}
	return api.ErrPlace
}

// differs is what is wrong with an event in the place of the one that must come.
func differs(e, must api.Event) api.Errno {
	switch {
	case e == must:
		return api.OK
	case e.Kind != must.Kind:
		return api.ErrPlace
	case e.ID != must.ID || e.Other != must.Other:
		return api.ErrFirst
	case e.Price != must.Price:
		return api.ErrTicks
	case e.Qty != must.Qty:
		return api.ErrAmount
	case e.Reason != must.Reason:
		return api.ErrReason
	}
	return api.ErrPlace
}

func (x *Checker) faultOfCancel(e api.Event) api.Errno {
	r, _ := x.find(e.ID)
	switch {
	case e.Reason != api.ByOwner && e.Reason != api.ByReplace:
		return api.ErrReason
	case r == nil:
		return api.ErrFirst
	case e.Qty != all(r):
		return api.ErrAmount
	case e != api.Event{Seq: e.Seq, Kind: e.Kind, ID: e.ID, Qty: e.Qty, Reason: e.Reason}:
		return api.ErrPlace
	}
	return api.OK
}

func (x *Checker) faultOfReject(e api.Event) api.Errno {
	if e != (api.Event{Seq: e.Seq, Kind: e.Kind, ID: e.ID, Target: e.Target, Code: e.Code}) {
		return api.ErrPlace
	}
	if !x.refuses(e) {
		return api.ErrReason
	}
	return api.OK
}

// refuses tells whether there is a command that a book refuses so.
func (x *Checker) refuses(e api.Event) bool {
	r, side := x.find(e.Target)
	// A New has no Target, and a Replace one that rests.
	fresh, changes := e.Target == 0, r != nil
	switch e.Code {
	case api.ErrKind:
		return true
	case api.ErrTarget:
		return !changes
	case api.ErrSide, api.ErrType:
		return fresh
	case api.ErrPrice, api.ErrQty, api.ErrPeak:
		return fresh || changes
	case api.ErrID:
		return (fresh || changes) && e.ID <= x.high
	case api.ErrFull:
		return fresh && e.ID > x.high && x.full()
	case api.ErrCross:
		if e.ID <= x.high {
			return false
		}
		if changes {
			return r.Type == api.PostOnly && len(*x.side(other(side))) > 0
		}
		return fresh && len(x.sides[0])+len(x.sides[1]) > 0 && !x.full()
	}
	return false
}

func (x *Checker) faultOfAck(e api.Event) api.Errno {
	order := api.Event{Seq: e.Seq, Kind: e.Kind, ID: e.ID, Member: e.Member, Side: e.Side, Type: e.Type, Price: e.Price, Qty: e.Qty, Peak: e.Peak}
	if e != order || e.ID <= x.high || !canCome(e) {
		return api.ErrPlace
	}
	// Behind a ByReplace the book is never full: the order that went has left its room.
	if rests(e.Type) && x.full() || e.Type == api.PostOnly && x.meets(e) {
		return api.ErrPlace
	}
	return api.OK
}

// canCome tells whether an order may be as the EvAck of it says; each bound keeps the next product from wrapping.
func canCome(e api.Event) bool {
	switch {
	case e.Side != api.Buy && e.Side != api.Sell:
		return false
	case e.Type < api.Limit || e.Type > api.PostOnly:
		return false
	case e.Price < 0 || e.Price >= api.Ticks || e.Type == api.Market && e.Price != 0:
		return false
	case e.Qty < 1 || e.Qty > api.MaxQty:
		return false
	case e.Peak == 0:
		return true
	}
	return rests(e.Type) && e.Peak <= e.Qty && e.Qty <= api.MaxShows*e.Peak
}

// rests tells whether what is left of an order of a type stands in the book.
func rests(kind int) bool { return kind == api.Limit || kind == api.PostOnly }
