package stops

import (
	"slices"

	"bourse/api"
)

// commandOf is the New by which a stop order comes to the engine.
func commandOf(s api.Stop, id uint64) api.Command {
	return api.Command{Kind: api.New, ID: id, Member: s.Member, Side: s.Side, Type: s.Type, Price: s.Price, Qty: s.Qty, Peak: s.Peak}
}

// eventOf tells that a stop order was taken, or, for a reason, that it is gone.
func eventOf(s api.Stop, reason int) api.Event {
	return api.Event{Kind: api.EvStop, ID: s.Number, Target: uint64(s.Trigger), Member: s.Member, Side: s.Side, Type: s.Type, Price: s.Price, Qty: s.Qty, Peak: s.Peak, Reason: reason}
}

// metIn looks for what is met by the last price of a state.
func metIn(kept api.Stops) func(s api.Stop) bool {
	return func(s api.Stop) bool {
		switch {
		case !kept.HasLast:
			return false
		case s.Side == api.Buy:
			return kept.Last >= s.Trigger
		}
		return kept.Last <= s.Trigger
	}
}

// firstMet is where the lowest number stands of those that are met, or -1: numbers rise in the list.
func (b *Book) firstMet() int { return slices.IndexFunc(b.kept.List, metIn(b.kept)) }

// drop takes out one that waits.
func (b *Book) drop(at int) api.Stop {
	s := b.kept.List[at]
	b.kept.List = slices.Delete(b.kept.List, at, at+1)
	return s
}

// tell puts events behind those that were told, with numbers of the Book's own.
func (b *Book) tell(told []api.Event, events ...api.Event) []api.Event {
	from := len(told)
	told = append(told, events...)
	for i := range told[from:] {
		b.kept.Seq++
		told[from+i].Seq = b.kept.Seq
	}
	return told
}

// pass lets the engine do a command, and keeps the last price that it tells. (A Book that New did not make has no engine.)
func (b *Book) pass(c api.Command) []api.Event {
	if b.Engine == nil {
		return nil
	}
	events := b.Engine.Do(c)
	for _, e := range events {
		if e.Kind == api.EvTrade {
			b.kept.Last, b.kept.HasLast = e.Price, true
		}
	}
	return events
}

// loads lets the engine go on from a book, and tells whether it does.
func (b *Book) loads(x api.Book) bool { return b.Engine != nil && b.Load(x) == api.OK }

// letGo lets those go that are met, until none is, and tells of it behind what was told.
func (b *Book) letGo(told []api.Event) []api.Event {
	at := b.firstMet()
	if at < 0 {
		return told
	}
	// The engine copies all its orders for this answer: it is asked once, and then EvAcks tell how High rises.
	high := b.Book().High
	for ; at >= 0; at = b.firstMet() {
		s := b.drop(at)
		told = b.tell(told, api.Event{Kind: api.EvTrigger, ID: s.Number, Other: high + 1})
		events := b.pass(commandOf(s, high+1))
		told = b.tell(told, events...)
		high = highBehind(high, events)
	}
	return told
}

// highBehind is an engine's High behind what it told.
func highBehind(high uint64, events []api.Event) uint64 {
	for _, e := range events {
		if e.Kind == api.EvAck {
			high = e.ID
		}
	}
	return high
}
