package phases

import (
	"slices"

	"bourse/api"
)

// brings tells whether an order comes by a command.
func brings(c api.Command) bool { return c.Kind == api.New || c.Kind == api.Replace }

// rejection tells that a command is refused, by the numbers that its kind has.
func rejection(c api.Command, why api.Errno) api.Event {
	switch c.Kind {
	case api.New:
		c.Target = 0
	case api.Cancel:
		c.ID = 0
	}
	return api.Event{Kind: api.EvReject, ID: c.ID, Target: c.Target, Code: why}
}

// cancelled tells that so much of an order is gone.
func cancelled(id, qty uint64, reason int) api.Event {
	return api.Event{Kind: api.EvCancel, ID: id, Qty: qty, Reason: reason}
}

func isHalt(e api.Event) bool { return e.Kind == api.EvHalt }

// tell gives events numbers of the floor's own.
func (f *Floor) tell(events ...api.Event) []api.Event {
	told := slices.Clone(events)
	for i := range told {
		f.seq++
		told[i].Seq = f.seq
	}
	return told
}

// followed tells what the book told, and keeps what that says of orders: the first one that comes is for the day or not. Behind a halt the floor turns.
func (f *Floor) followed(events []api.Event, day bool) []api.Event {
	for _, e := range events {
		switch e.Kind {
		case api.EvTrigger:
			// Whatever comes from here on comes of stop orders.
			day = true
		case api.EvAck:
			f.take(e.ID, day)
		}
	}
	f.forget(events)
	if slices.ContainsFunc(events, isHalt) {
		events = append(events, f.turned(api.Halted, f.pause)...)
	}
	return f.tell(events...)
}

// take keeps what is to be known of an order that was taken.
func (f *Floor) take(id uint64, day bool) {
	f.high = id
	if day {
		f.day[id] = struct{}{}
	}
}

// forget lets go of what is known of orders that the book has no more, of those that are told of.
func (f *Floor) forget(events []api.Event) {
	for _, e := range events {
		for _, id := range [2]uint64{e.ID, e.Other} {
			if f.IsDay(id) && !f.rests(id) {
				delete(f.day, id)
			}
		}
	}
}

// rests tells whether the book has an order of an ID.
func (f *Floor) rests(id uint64) bool {
	_, _, there := f.book.Find(id)
	return there
}
