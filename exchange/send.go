package exchange

import "bourse/api"

// Send does a request: what is told of it.
func (x *Exchange) Send(q api.Request) []api.Report {
	if why := x.refusal(q); why != api.OK {
		e := api.Event{Kind: api.EvReject, Code: why}
		return x.tell(api.Report{Member: q.Member, Instrument: q.Instrument, Ref: q.Ref, Target: q.Target, Event: e})
	}
	return x.ask(x.find(q.Instrument), q)
}

// refusal is why a request does not come to the floor at all, or OK.
func (x *Exchange) refusal(q api.Request) api.Errno {
	i := x.find(q.Instrument)
	switch {
	case i == nil:
		return api.ErrInstrument
	case x.members[q.Member] == nil:
		return api.ErrNobody
	case x.isOut(q.Member):
		return api.ErrDefault
	case q.Kind < api.New || q.Kind > api.WithdrawStop:
		return api.ErrKind
	case brings(q) && (q.Ref == 0 || i.isUsed(own{q.Member, q.Ref})):
		return api.ErrRef
	case q.Kind == api.WithdrawStop:
		return api.OK
	}
	return i.desk.Ahead(i.command(q))
}

// brings tells whether a request is for something that gets a number of the member's own.
func brings(q api.Request) bool {
	return q.Kind == api.New || q.Kind == api.Replace || q.Kind == api.PlaceStop
}

// isOut tells whether a member is out in clearing.
func (x *Exchange) isOut(member uint32) bool {
	s, _ := x.Margin(member)
	return s.Out
}

// ask lets the floor do a request, and works off what it tells.
func (x *Exchange) ask(i *instrument, q api.Request) []api.Report {
	return x.workOff(&passage{instrument: i, asked: q, events: i.do(q)})
}

// do is what the floor tells of a request.
func (i *instrument) do(q api.Request) []api.Event {
	switch q.Kind {
	case api.PlaceStop:
		return i.floor.Stop(i.stop(q))
	case api.WithdrawStop:
		return i.floor.Withdraw(i.stops.numbers[own{q.Member, q.Target}])
	}
	return i.floor.Do(api.Order{Command: i.command(q), Day: q.Day})
}

// command is a request as one to the floor; that for a stop order is the New that it may come to. (Whatever its kind does not have is not looked at.)
func (i *instrument) command(q api.Request) api.Command {
	c := api.Command{
		Kind: q.Kind, ID: i.floor.High() + 1, Target: i.orders.numbers[own{q.Member, q.Target}],
		Member: q.Member, Side: q.Side, Type: q.Type, Price: q.Price, Qty: q.Qty, Peak: q.Peak,
	}
	if q.Kind == api.PlaceStop {
		c.Kind = api.New
	}
	return c
}

// stop is a request as a stop order. Its number is the next one: the floor took all of those ahead of it.
func (i *instrument) stop(q api.Request) api.Stop {
	return api.Stop{
		Number: uint64(len(i.stops.owners)) + 1, Member: q.Member, Side: q.Side, Type: q.Type,
		Trigger: q.Trigger, Price: q.Price, Qty: q.Qty, Peak: q.Peak,
	}
}
