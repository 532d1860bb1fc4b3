package treebook

import (
	"iter"

	"bourse/api"
	"bourse/rules"
)

// turn is a command on its way: the book that it changes, and what is told of it.
type turn struct {
	*Book
	told []api.Event
}

// Do does a command: what it tells.
func (b *Book) Do(c api.Command) []api.Event {
	t := turn{Book: b}
	target, o := b.orders[c.Target], b.coming(c)
	switch why := b.refusal(c, o); {
	case why != api.OK:
		t.reject(c, why)
	case c.Kind == api.Cancel:
		t.cancel(target, api.ByOwner)
	case c.Kind == api.Replace:
		t.cancel(target, api.ByReplace)
		t.take(o)
	default:
		t.take(o)
	}
	return t.told
}

// coming is the order that a command lets come, unless it is refused; a Replace says nothing of Member, Side and Type.
func (b *Book) coming(c api.Command) *order {
	if target := b.orders[c.Target]; c.Kind == api.Replace && target != nil {
		c.Member, c.Side, c.Type = target.Member, target.side, target.Type
	}
	what := api.Resting{ID: c.ID, Member: c.Member, Type: c.Type, Price: c.Price, Visible: c.Qty, Peak: c.Peak}
	return &order{Resting: what, side: c.Side}
}

// refusal is what a command is refused for, or OK; o is the order that it would let come.
func (b *Book) refusal(c api.Command, o *order) api.Errno {
	why := rules.Check(c)
	switch {
	case why == api.ErrKind:
		return why
	case c.Kind != api.New && b.orders[c.Target] == nil:
		return api.ErrTarget
	case why != api.OK || c.Kind == api.Cancel:
		return why
	case c.ID <= b.high:
		return api.ErrID
	case c.Kind == api.New && o.mayRest() && b.Len() >= b.config.Capacity:
		return api.ErrFull
	case o.Type == api.PostOnly && b.wouldTrade(o):
		return api.ErrCross
	}
	return api.OK
}

// met goes through the levels that an order meets, the best first, as they are when the going begins.
func (b *Book) met(o *order) iter.Seq[*level] {
	return func(yield func(*level) bool) {
		for price, l := range b.levels(o.opposite()) {
			if !o.reaches(price) || !yield(l) {
				return
			}
		}
	}
}

// wouldTrade tells whether there is anything that an order meets.
func (b *Book) wouldTrade(o *order) bool {
	for range b.met(o) {
		return true
	}
	return false
}

// parted tells whether two orders that meet may not trade, since they are of one member.
func (b *Book) parted(o, rests *order) bool {
	return b.config.Meet != api.MeetTrade && o.Member != 0 && o.Member == rests.Member
}

// fills tells whether an order would trade whole, were it an IOC.
func (b *Book) fills(o *order) bool {
	left := o.Visible
	for l := range b.met(o) {
		qty, ends := b.offered(l, o)
		if qty >= left || ends {
			return qty >= left
		}
		left -= qty
	}
	return false
}

// offered is how much of a level an order could trade, and whether its way ends there because it meets one of its own.
func (b *Book) offered(l *level, o *order) (uint64, bool) {
	var shown, all uint64
	for r := l.first; r != nil; r = r.behind {
		switch {
		case !b.parted(o, r):
			shown += r.Visible
			all += r.Visible + r.Hidden
		case b.config.Meet != api.MeetOldest:
			// What others ahead of that one hold back would be shown behind it.
			return shown, true
		}
	}
	return all, false
}

// tell numbers an event.
func (t *turn) tell(e api.Event) {
	t.seq++
	e.Seq = t.seq
	t.told = append(t.told, e)
}

// reject tells that a command is refused; New has no Target, Cancel no ID, whatever is handed in there.
func (t *turn) reject(c api.Command, why api.Errno) {
	if c.Kind == api.New {
		c.Target = 0
	}
	if c.Kind == api.Cancel {
		c.ID = 0
	}
	t.tell(api.Event{Kind: api.EvReject, ID: c.ID, Target: c.Target, Code: why})
}

// end tells that what is left of an order is cancelled.
func (t *turn) end(o *order, reason int) {
	t.tell(api.Event{Kind: api.EvCancel, ID: o.ID, Qty: o.Visible + o.Hidden, Reason: reason})
}

// cancel takes an order out that rests.
func (t *turn) cancel(o *order, reason int) {
	t.drop(o)
	t.end(o, reason)
}

// take lets an order come that is not refused.
func (t *turn) take(o *order) {
	t.high = o.ID
	t.tell(api.Event{Kind: api.EvAck, ID: o.ID, Member: o.Member, Side: o.side, Type: o.Type, Price: o.Price, Qty: o.Visible, Peak: o.Peak})
	if o.Type == api.FOK && !t.fills(o) {
		t.end(o, api.ByFill)
		return
	}
	t.match(o)
	switch {
	case o.Visible == 0:
	case o.mayRest():
		o.show(o.Visible)
		t.enqueue(o)
	default:
		t.end(o, api.ByRest)
	}
}

// match lets an order meet the others, until nothing is left of it or there is none any more.
func (t *turn) match(o *order) {
	for l := range t.met(o) {
		for o.Visible > 0 && l.first != nil {
			t.meet(o, l.first)
		}
		if o.Visible == 0 {
			return
		}
	}
}

// meet lets an order meet the one that stands first.
func (t *turn) meet(o, first *order) {
	if !t.parted(o, first) {
		t.trade(o, first)
		return
	}
	if t.config.Meet != api.MeetNewest {
		t.cancel(first, api.ByMeet)
	}
	if t.config.Meet != api.MeetOldest {
		t.end(o, api.ByMeet)
		o.Visible = 0
	}
}

// trade lets two orders trade; the one that rests is gone, or is refreshed, if it shows nothing any more.
func (t *turn) trade(o, first *order) {
	l := first.level
	qty := min(o.Visible, first.Visible)
	t.tell(api.Event{Kind: api.EvTrade, ID: o.ID, Other: first.ID, Side: o.side, Price: first.Price, Qty: qty})
	o.Visible -= qty
	first.Visible -= qty
	l.Qty -= qty
	switch {
	case first.Visible > 0:
	case first.Hidden == 0:
		t.drop(first)
	default:
		l.remove(first)
		first.show(first.Hidden)
		l.push(first)
		t.tell(api.Event{Kind: api.EvRefresh, ID: first.ID, Price: first.Price, Qty: first.Visible})
	}
}
