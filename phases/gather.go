package phases

import (
	"bourse/api"
	"bourse/rules"
)

// gathered is what is told of a command in a call.
func (f *Floor) gathered(c api.Command, day bool) []api.Event {
	if why := f.refusal(c); why != api.OK {
		return []api.Event{rejection(c, why)}
	}
	switch c.Kind {
	case api.Cancel:
		old := f.drop(c.Target)
		return []api.Event{cancelled(old.ID, old.Qty, api.ByOwner)}
	case api.Replace:
		day = f.IsDay(c.Target)
		old := f.drop(c.Target)
		c.Member, c.Side, c.Type = old.Member, old.Side, old.Type
		return []api.Event{cancelled(old.ID, old.Qty, api.ByReplace), f.enter(c, day)}
	}
	return []api.Event{f.enter(c, day)}
}

// refusal is what a command is refused for in a call, or OK.
func (f *Floor) refusal(c api.Command) api.Errno {
	why := rules.Check(c)
	old, there := f.call.own[c.Target]
	switch {
	case why == api.ErrKind:
		return why
	case c.Kind != api.New && !there:
		return api.ErrTarget
	case why != api.OK || c.Kind == api.Cancel:
		return why
	case c.Kind == api.New && c.Type != api.Limit && c.Type != api.Market:
		return api.ErrPhase
	case c.Kind == api.Replace:
		// Whatever stands there, the type is that of the order Target.
		c.Type = old.kind
	}
	return f.refusalOf(c)
}

// refusalOf is what an order that would come in a call is refused for, by what hangs on the floor, or OK; its Type is its own.
func (f *Floor) refusalOf(c api.Command) api.Errno {
	market := c.Type == api.Market
	switch {
	case market && c.Price != 0:
		return api.ErrPrice
	case market && c.Peak != 0:
		return api.ErrPeak
	case c.ID <= f.high:
		return api.ErrID
	case !market && f.isBeyond(c.Price):
		return api.ErrBand
	case c.Kind == api.New && f.call.Len() >= f.session.Config.Capacity:
		return api.ErrFull
	}
	return api.OK
}

// isBeyond tells whether a price is out of the static band.
func (f *Floor) isBeyond(price int) bool {
	return max(price-f.session.Reference, f.session.Reference-price) > f.session.Static
}

// drop takes an order out of the call.
func (f *Floor) drop(id uint64) api.Interest {
	delete(f.day, id)
	return f.call.drop(id)
}

// enter lets an order come to the call, and is what tells of it.
func (f *Floor) enter(c api.Command, day bool) api.Event {
	f.take(c.ID, day)
	f.call.enter(api.Interest{ID: c.ID, Member: c.Member, Side: c.Side, Type: c.Type, Price: c.Price, Qty: c.Qty}, c.Peak)
	return api.Event{Kind: api.EvAck, ID: c.ID, Member: c.Member, Side: c.Side, Type: c.Type, Price: c.Price, Qty: c.Qty, Peak: c.Peak}
}
