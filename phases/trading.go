package phases

import (
	"bourse/api"
	"bourse/bands"
	"bourse/snapshot"
	"bourse/stops"
)

// trading is the continuous one: the stop orders' Book, over the Guard, over an engine.
type trading struct {
	*stops.Book
	guard *bands.Guard
}

// begun is trading by a session's numbers, without orders; it refuses a session that can't be.
func begun(s api.Session) (*trading, api.Errno) {
	e, why := snapshot.Make(s.Engine, s.Config)
	if why != api.OK {
		return nil, why
	}
	g, why := bands.New(e, s.Reference, s.Static, s.Dynamic)
	if why != api.OK {
		return nil, why
	}
	b, why := stops.New(g, s.Stops)
	if why != api.OK {
		return nil, why
	}
	return &trading{b, g}, api.OK
}

// load gives it orders, and the greatest number of a stop order that was taken ahead of it.
func (t *trading) load(x api.Book, number uint64) {
	s := t.State()
	s.High = number
	t.Restore(s, x)
}

// goOn lets it go on from where another one stands.
func (t *trading) goOn(from *trading) {
	x := from.Book.Book()
	t.guard.Restore(from.guard.State(), x)
	t.Restore(from.State(), x)
}

// end lets no stop order wait any more, and is what is told of it.
func (t *trading) end() []api.Event {
	var events []api.Event
	for _, s := range t.Pending() {
		for _, e := range t.Withdraw(s.Number) {
			e.Reason = api.ByDay
			events = append(events, e)
		}
	}
	return events
}
