package phases

import (
	"slices"

	"bourse/api"
)

// turns is what is done from one phase to another one, wherever there is such a turn: what is told of it, not numbered yet.
func (f *Floor) turns() map[[2]int]func() []api.Event {
	return map[[2]int]func() []api.Event{
		{api.Closed, api.PreOpen}:  f.gather,
		{api.PreOpen, api.Opened}:  f.open,
		{api.Halted, api.Opened}:   f.open,
		{api.Opened, api.Halted}:   f.pause,
		{api.Opened, api.PreClose}: f.pause,
		{api.Halted, api.PreClose}: func() []api.Event { return nil },
		{api.PreClose, api.Closed}: f.close,
	}
}

// turned does a turn, behind which another phase begins.
func (f *Floor) turned(phase int, do func() []api.Event) []api.Event {
	events := do()
	f.phase = phase
	return append(events, api.Event{Kind: api.EvPhase, Reason: phase, Price: f.session.Reference})
}

// gather goes from the book to a call.
func (f *Floor) gather() []api.Event {
	x := f.book.Book()
	c := called(f.session)
	c.fill(api.Buy, x.Buys)
	c.fill(api.Sell, x.Sells)
	f.book, f.call, f.trading = nil, c, nil
	return nil
}

// pause ends continuous trading.
func (f *Floor) pause() []api.Event {
	events := f.trading.end()
	f.number = f.trading.State().High
	return append(events, f.gather()...)
}

// open lets continuous trading begin.
func (f *Floor) open() []api.Event {
	events := f.uncross()
	// The numbers are those of a session that could be, and a call's price is one, too.
	t, _ := begun(f.session)
	t.load(f.rested(), f.number)
	f.trade(t)
	f.forget(events)
	return events
}

// trade lets this trading be the floor's.
func (f *Floor) trade(t *trading) { f.book, f.call, f.trading = t.Book, nil, t }

// close ends the day.
func (f *Floor) close() []api.Event {
	events := f.uncross()
	x := f.rested()
	buys, endedBuys := f.parted(x.Buys)
	sells, endedSells := f.parted(x.Sells)
	for _, r := range slices.Concat(endedBuys, endedSells) {
		events = append(events, cancelled(r.ID, r.Visible+r.Hidden, api.ByDay))
	}
	x.Buys, x.Sells = buys, sells
	f.shut(x)
	f.forget(events)
	return events
}

// parted is the orders of a side that stay behind the day's end, and those that end with it.
func (f *Floor) parted(l []api.Resting) (stays, ended []api.Resting) {
	for _, r := range l {
		if f.IsDay(r.ID) {
			ended = append(ended, r)
		} else {
			stays = append(stays, r)
		}
	}
	return stays, ended
}

// uncross trades all that can be traded at one price, and takes no Market farther.
func (f *Floor) uncross() []api.Event {
	var events []api.Event
	fills, q, ok := f.call.Uncross()
	if ok {
		events = append(events, api.Event{Kind: api.EvPrice, Price: q.Price, Qty: q.Volume, Reason: q.Rule})
		f.session.Reference = q.Price
	}
	for _, x := range fills {
		events = append(events, api.Event{Kind: api.EvTrade, ID: x.Buy, Other: x.Sell, Side: api.Buy, Price: x.Price, Qty: x.Qty})
	}
	for _, i := range f.call.markets() {
		events = append(events, cancelled(i.ID, i.Qty, api.ByRest))
	}
	return events
}

// rested is the book that comes of the call.
func (f *Floor) rested() api.Book {
	return api.Book{Config: f.session.Config, Buys: f.call.resting(api.Buy), Sells: f.call.resting(api.Sell), High: f.high, Seq: f.seq}
}
