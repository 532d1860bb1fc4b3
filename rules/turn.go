package rules

import "bourse/api"

// turn is a command on its way: the book that it changes, and what is told of it.
type turn struct {
	*Book
	told []api.Event
}

// coming is an order that comes: nothing of it rests yet.
type coming struct {
	api.Resting
	side int
	left uint64
}

// order is the one that a command lets come, be it refused or not; that of a Replace is of the kind of the order Target.
func (b *Book) order(c api.Command) coming {
	if c.Kind == api.Replace {
		old, side, _ := b.Find(c.Target)
		c.Member, c.Side, c.Type = old.Member, side, old.Type
	}
	what := api.Resting{ID: c.ID, Member: c.Member, Type: c.Type, Price: c.Price, Peak: c.Peak}
	return coming{Resting: what, side: c.Side, left: c.Qty}
}

// refusal is what a command is refused for, or OK.
func (b *Book) refusal(c api.Command) api.Errno {
	why := Check(c)
	if why == api.ErrKind {
		return why
	}
	if c.Kind != api.New && !b.has(c.Target) {
		return api.ErrTarget
	}
	if why != api.OK || c.Kind == api.Cancel {
		return why
	}
	if c.ID <= b.high {
		return api.ErrID
	}
	o := b.order(c)
	switch {
	case c.Kind == api.New && rests(o.Type) && b.Len() >= b.config.Capacity:
		return api.ErrFull
	case o.Type == api.PostOnly && b.meets(o):
		return api.ErrCross
	}
	return api.OK
}

// has tells whether an order of that ID rests.
func (b *Book) has(id uint64) bool {
	_, _, there := b.Find(id)
	return there
}

// meets tells whether there is an order that the one that comes would meet.
func (b *Book) meets(o coming) bool {
	l := *b.side(other(o.side))
	return len(l) > 0 && o.reaches(l[0].Price)
}

// reaches tells whether an order may trade at a price: one that would stand ahead of its own, were it of its side, is too dear or too cheap.
func (o coming) reaches(price int) bool {
	return o.Type == api.Market || !better(o.side, price, o.Price)
}

// tell numbers an event.
func (t *turn) tell(e api.Event) {
	t.seq++
	e.Seq = t.seq
	t.told = append(t.told, e)
}

// reject tells that a command is refused, by the numbers that its kind has.
func (t *turn) reject(c api.Command, why api.Errno) {
	e := api.Event{Kind: api.EvReject, ID: c.ID, Target: c.Target, Code: why}
	switch c.Kind {
	case api.New:
		e.Target = 0
	case api.Cancel:
		e.ID = 0
	}
	t.tell(e)
}

// end tells that so much of an order is cancelled.
func (t *turn) end(id, qty uint64, reason int) {
	t.tell(api.Event{Kind: api.EvCancel, ID: id, Qty: qty, Reason: reason})
}

// cancel takes an order out that rests.
func (t *turn) cancel(id uint64, reason int) {
	r, side, _ := t.Find(id)
	l := t.side(side)
	l.drop(l.find(id))
	t.end(id, r.Visible+r.Hidden, reason)
}

// take lets an order come that is not refused.
func (t *turn) take(o coming) {
	t.high = o.ID
	t.tell(api.Event{Kind: api.EvAck, ID: o.ID, Member: o.Member, Side: o.side, Type: o.Type, Price: o.Price, Qty: o.left, Peak: o.Peak})
	if o.Type == api.FOK && !t.fills(o) {
		t.end(o.ID, o.left, api.ByFill)
		return
	}
	t.come(o)
}

// fills tells whether an order would trade whole, were it an IOC, by what another book of the same orders tells.
func (b *Book) fills(o coming) bool {
	trial := turn{Book: opened(b.Book())}
	o.Type = api.IOC
	trial.come(o)
	for _, e := range trial.told {
		if e.Kind == api.EvTrade {
			o.left -= e.Qty
		}
	}
	return o.left == 0
}

// come lets an order meet the others, and rest with what is left of it, if it may.
func (t *turn) come(o coming) {
	for o.left > 0 && t.meets(o) {
		t.meet(&o)
	}
	switch {
	case o.left == 0:
	case rests(o.Type):
		o.Visible, o.Hidden = shown(o.Peak, o.left)
		t.side(o.side).enqueue(o.side, o.Resting)
	default:
		t.end(o.ID, o.left, api.ByRest)
	}
}

// meet lets an order meet the first one of the other side.
func (t *turn) meet(o *coming) {
	first := (*t.side(other(o.side)))[0]
	if t.config.Meet == api.MeetTrade || o.Member == 0 || o.Member != first.Member {
		t.trade(o)
		return
	}
	if t.config.Meet != api.MeetNewest {
		t.cancel(first.ID, api.ByMeet)
	}
	if t.config.Meet != api.MeetOldest {
		t.end(o.ID, o.left, api.ByMeet)
		o.left = 0
	}
}

// trade lets an order trade with the first one of the other side, which is gone or refreshed if it shows nothing any more.
func (t *turn) trade(o *coming) {
	side := other(o.side)
	l := t.side(side)
	first := (*l)[0]
	qty := min(o.left, first.Visible)
	t.tell(api.Event{Kind: api.EvTrade, ID: o.ID, Other: first.ID, Side: o.side, Price: first.Price, Qty: qty})
	o.left -= qty
	first.Visible -= qty
	switch {
	case first.Visible > 0:
	case first.Hidden == 0:
		l.drop(0)
	default:
		first.Visible, first.Hidden = shown(first.Peak, first.Hidden)
		t.tell(api.Event{Kind: api.EvRefresh, ID: first.ID, Price: first.Price, Qty: first.Visible})
		l.again(side)
	}
}

// shown is how much of a quantity is shown at once with a peak (0: all), and what is held back.
func shown(peak, qty uint64) (uint64, uint64) {
	if peak == 0 || peak > qty {
		return qty, 0
	}
	return peak, qty - peak
}
