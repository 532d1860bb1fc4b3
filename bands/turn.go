package bands

import (
	"slices"

	"bourse/api"
)

// brings tells whether an order comes by a command.
func brings(c api.Command) bool { return c.Kind == api.New || c.Kind == api.Replace }

// isMarket tells whether a command names no price. (A Replace has no type of its own, and no Market rests.)
func isMarket(c api.Command) bool { return c.Kind == api.New && c.Type == api.Market }

// rejection tells that a command that brings an order is refused; New has no Target, whatever is handed in there.
func rejection(c api.Command, why api.Errno) api.Event {
	if c.Kind == api.New {
		c.Target = 0
	}
	return api.Event{Kind: api.EvReject, ID: c.ID, Target: c.Target, Code: why}
}

// tell gives events numbers of the Guard's own.
func (g *Guard) tell(events ...api.Event) []api.Event {
	told := slices.Clone(events)
	for i := range told {
		g.kept.Seq++
		told[i].Seq = g.kept.Seq
	}
	return told
}

// halted halts, and is what tells of it.
func (g *Guard) halted(price int) api.Event {
	g.kept.Halted = true
	return api.Event{Kind: api.EvHalt, Price: price}
}

// noted keeps the last price of what the engine told.
func (g *Guard) noted(events []api.Event) []api.Event {
	for _, price := range traded(events) {
		g.kept.Last, g.kept.HasLast = price, true
	}
	return events
}

// loads lets the engine go on from a book, and tells whether it does.
func (g *Guard) loads(x api.Book) bool { return g.Engine != nil && g.Load(x) == api.OK }

// tried lets the engine do a command, and takes it back where that leaves a band.
func (g *Guard) tried(c api.Command) []api.Event {
	was := g.Book()
	events := g.Engine.Do(c)
	why, price := g.verdict(c, events)
	if why == api.OK {
		return g.noted(events)
	}
	g.Load(was)
	told := []api.Event{rejection(c, why)}
	if why == api.ErrJump {
		told = append(told, g.halted(price))
	}
	return told
}

// verdict is what a command is refused for, by what the engine tells of it, or OK; and where it would jump to.
func (g *Guard) verdict(c api.Command, events []api.Event) (api.Errno, int) {
	if len(events) > 0 && events[0].Kind == api.EvReject {
		return api.OK, 0
	}
	prices := traded(events)
	beyond := func(s span) int {
		return slices.IndexFunc(prices, func(price int) bool { return !s.has(price) })
	}
	if g.namesBeyond(c) || beyond(staticOf(g.kept)) >= 0 {
		return api.ErrBand, 0
	}
	if at := beyond(dynamicOf(g.kept)); at >= 0 {
		return api.ErrJump, prices[at]
	}
	return api.OK, 0
}

// traded is the prices of the trades that are told.
func traded(events []api.Event) []int {
	var prices []int
	for _, e := range events {
		if e.Kind == api.EvTrade {
			prices = append(prices, e.Price)
		}
	}
	return prices
}
