package checker

import "bourse/api"

// take does to the book what an event tells that can stand next.
func (x *Checker) take(e api.Event) {
	x.seq = e.Seq
	switch {
	case e.Kind == api.EvAck:
		x.arrive(e)
	case x.arriving != nil:
		x.goOn(e)
	case e.Kind == api.EvCancel:
		x.withdraw(e)
	}
	x.settle()
}

// arrive lets the order of an EvAck come.
func (x *Checker) arrive(ack api.Event) {
	x.high = ack.ID
	x.replaced = nil
	x.arriving = &arrival{ack: ack, left: ack.Qty, void: ack.Type == api.FOK && !x.fills(ack)}
}

// withdraw takes an order out that rests; behind a ByReplace another one must come in its place.
func (x *Checker) withdraw(e api.Event) {
	r, side := x.find(e.ID)
	q := x.side(side)
	q.drop(q.find(e.ID))
	if e.Reason == api.ByReplace {
		x.replaced = &owed{r.Member, side, r.Type}
	}
}

// goOn does what is told of the order that arrives and of the one that stands first against it.
func (x *Checker) goOn(e api.Event) {
	a := x.arriving
	side := other(a.ack.Side)
	q := x.side(side)
	switch {
	case e.Kind == api.EvCancel && e.ID == a.ack.ID:
		a.left, a.void, a.met = 0, false, false
	case e.Kind == api.EvCancel:
		q.drop(0)
		a.met = x.config.Meet == api.MeetBoth
	case e.Kind == api.EvTrade:
		a.left -= e.Qty
		first := q.first()
		first.Visible -= e.Qty
		if all(first) == 0 {
			q.drop(0)
		}
	case e.Kind == api.EvRefresh:
		first := q.first()
		first.Visible = e.Qty
		first.Hidden -= e.Qty
		q.drop(0)
		q.put(side, first)
	}
}

// settle ends the command of which nothing more must be told: what is left of its order rests.
func (x *Checker) settle() {
	if x.arriving == nil {
		return
	}
	if _, more := x.due(); more {
		return
	}
	ack, left := x.arriving.ack, x.arriving.left
	x.arriving = nil
	if left > 0 {
		shown := showing(ack.Peak, left)
		x.side(ack.Side).put(ack.Side, &api.Resting{ID: ack.ID, Member: ack.Member, Type: ack.Type, Price: ack.Price, Visible: shown, Hidden: left - shown, Peak: ack.Peak})
	}
}
