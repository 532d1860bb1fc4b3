package matching

import (
	"bourse/api"
	"bourse/rules"
)

// turn is a command on its way: the book that it changes, and what is told of it.
type turn struct {
	*State
	Orders
	told []api.Event
}

// coming is an order that comes: nothing of it rests yet.
type coming struct {
	api.Resting
	side int
	left uint64
}

// Do does a command on a book: what it tells.
func Do(s *State, orders Orders, c api.Command) []api.Event {
	t := turn{State: s, Orders: orders}
	o := t.coming(c)
	switch why := t.refusal(c, o); {
	case why != api.OK:
		t.reject(c, why)
	case c.Kind == api.Cancel:
		t.cancel(c.Target, api.ByOwner)
	case c.Kind == api.Replace:
		t.cancel(c.Target, api.ByReplace)
		t.take(o)
	default:
		t.take(o)
	}
	return t.told
}

// coming is the order that a command lets come, unless it is refused; a Replace says nothing of Member, Side and Type.
func (t *turn) coming(c api.Command) *coming {
	if c.Kind == api.Replace {
		old, side, _ := t.Find(c.Target)
		c.Member, c.Side, c.Type = old.Member, side, old.Type
	}
	what := api.Resting{ID: c.ID, Member: c.Member, Type: c.Type, Price: c.Price, Peak: c.Peak}
	return &coming{Resting: what, side: c.Side, left: c.Qty}
}

// refusal is what a command is refused for, or OK; o is the order that it would let come.
func (t *turn) refusal(c api.Command, o *coming) api.Errno {
	why := rules.Check(c)
	switch {
	case why == api.ErrKind:
		return why
	case c.Kind != api.New && !t.has(c.Target):
		return api.ErrTarget
	case why != api.OK || c.Kind == api.Cancel:
		return why
	case c.ID <= t.High:
		return api.ErrID
	case c.Kind == api.New && o.mayRest() && t.Len() >= t.Config.Capacity:
		return api.ErrFull
	case o.Type == api.PostOnly && t.wouldTrade(o):
		return api.ErrCross
	}
	return api.OK
}

// has tells whether an order of that ID rests.
func (t *turn) has(id uint64) bool {
	_, _, there := t.Find(id)
	return there
}

// met is the first order of the other side, and whether the one that comes meets it.
func (t *turn) met(o *coming) (api.Resting, bool) {
	for first := range t.All(o.opposite()) {
		return first, o.reaches(first.Price)
	}
	return api.Resting{}, false
}

// wouldTrade tells whether there is an order that the one that comes meets.
func (t *turn) wouldTrade(o *coming) bool {
	_, meets := t.met(o)
	return meets
}

// opposite is the side that an order meets.
func (o *coming) opposite() int { return api.Buy + api.Sell - o.side }

// reaches tells whether an order may trade at a price.
func (o *coming) reaches(price int) bool {
	switch {
	case o.Type == api.Market:
		return true
	case o.side == api.Buy:
		return price <= o.Price
	}
	return price >= o.Price
}

// mayRest tells whether what is left of an order stays in the book.
func (o *coming) mayRest() bool { return o.Type == api.Limit || o.Type == api.PostOnly }

// show parts a quantity into what an order shows at once and what it holds back.
func show(r *api.Resting, qty uint64) {
	r.Visible = qty
	if r.Peak != 0 {
		r.Visible = min(r.Peak, qty)
	}
	r.Hidden = qty - r.Visible
}

// tell numbers an event.
func (t *turn) tell(e api.Event) {
	t.Seq++
	e.Seq = t.Seq
	t.told = append(t.told, e)
}

// reject tells that a command is refused; New has no Target, Cancel no ID, whatever is handed in there.
func (t *turn) reject(c api.Command, why api.Errno) {
	if c.Kind == api.New {
		c.Target = 0
	}
	if c.Kind == api.Cancel {
		c.ID = 0
	}
	t.tell(api.Event{Kind: api.EvReject, ID: c.ID, Target: c.Target, Code: why})
}

// end tells that so much of an order is cancelled.
func (t *turn) end(id, qty uint64, reason int) {
	t.tell(api.Event{Kind: api.EvCancel, ID: id, Qty: qty, Reason: reason})
}

// cancel takes an order out that rests.
func (t *turn) cancel(id uint64, reason int) {
	r, _, _ := t.Find(id)
	t.Drop(id)
	t.end(id, r.Visible+r.Hidden, reason)
}

// take lets an order come that is not refused.
func (t *turn) take(o *coming) {
	t.High = o.ID
	t.tell(api.Event{Kind: api.EvAck, ID: o.ID, Member: o.Member, Side: o.side, Type: o.Type, Price: o.Price, Qty: o.left, Peak: o.Peak})
	if o.Type == api.FOK && !t.fills(o) {
		t.end(o.ID, o.left, api.ByFill)
		return
	}
	t.match(o)
	switch {
	case o.left == 0:
	case o.mayRest():
		show(&o.Resting, o.left)
		t.Enqueue(o.side, o.Resting)
	default:
		t.end(o.ID, o.left, api.ByRest)
	}
}

// fills tells whether an order would trade whole, were it an IOC.
func (t *turn) fills(o *coming) bool {
	var sure, hidden uint64 // hidden: what those at one price hold back, of which it trades only behind all that they show
	price := 0
	for r := range t.All(o.opposite()) {
		if sure >= o.left || !o.reaches(r.Price) {
			break
		}
		if r.Price != price {
			sure, hidden, price = sure+hidden, 0, r.Price
		}
		switch {
		case !t.parted(o, r):
			sure += r.Visible
			hidden += r.Hidden
		case t.Config.Meet != api.MeetOldest:
			return sure >= o.left
		}
	}
	return sure+hidden >= o.left
}

// parted tells whether two orders that meet may not trade, since they are of one member.
func (t *turn) parted(o *coming, rests api.Resting) bool {
	return t.Config.Meet != api.MeetTrade && o.Member != 0 && o.Member == rests.Member
}

// match lets an order meet the others, until nothing is left of it or there is none any more.
func (t *turn) match(o *coming) {
	for o.left > 0 {
		first, meets := t.met(o)
		if !meets {
			return
		}
		t.meet(o, first)
	}
}

// meet lets an order meet the one that stands first.
func (t *turn) meet(o *coming, first api.Resting) {
	if !t.parted(o, first) {
		t.trade(o, first)
		return
	}
	if t.Config.Meet != api.MeetNewest {
		t.cancel(first.ID, api.ByMeet)
	}
	if t.Config.Meet != api.MeetOldest {
		t.end(o.ID, o.left, api.ByMeet)
		o.left = 0
	}
}

// trade lets two orders trade; the one that rests is gone, or is refreshed, if it shows nothing any more.
func (t *turn) trade(o *coming, first api.Resting) {
	qty := min(o.left, first.Visible)
	t.tell(api.Event{Kind: api.EvTrade, ID: o.ID, Other: first.ID, Side: o.side, Price: first.Price, Qty: qty})
	o.left -= qty
	first.Visible -= qty
	if first.Visible > 0 {
		t.Set(first)
		return
	}
	t.Pop(o.opposite())
	if first.Hidden > 0 {
		show(&first, first.Hidden)
		t.Enqueue(o.opposite(), first)
		t.tell(api.Event{Kind: api.EvRefresh, ID: first.ID, Price: first.Price, Qty: first.Visible})
	}
}
