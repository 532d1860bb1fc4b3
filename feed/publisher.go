package feed

import "bourse/api"

// Publisher tells what changes.
type Publisher struct {
	depth int
	shown api.Picture
}

// NewPublisher: of so many levels a side; nothing is shown yet.
func NewPublisher(depth int) (*Publisher, api.Errno) {
	if depth < 1 || depth > api.MaxDepth {
		return nil, api.ErrArg
	}
	return &Publisher{depth: depth}, api.OK
}

// Publish tells the trades among events, and what changed of the levels that are shown.
func (p *Publisher) Publish(buys, sells []api.Level, events []api.Event) ([]api.Data, api.Errno) {
	told, ok := trades(events)
	if !ok || !canBeLevels(buys, sells) {
		return nil, api.ErrArg
	}
	buys, sells = p.first(buys), p.first(sells)
	told = append(told, changes(api.Buy, p.shown.Buys, buys)...)
	told = append(told, changes(api.Sell, p.shown.Sells, sells)...)
	for i := range told {
		p.shown.Seq++
		told[i].Seq = p.shown.Seq
	}
	p.shown.Buys, p.shown.Sells = buys, sells
	return told, api.OK
}

// Picture is what is shown, and the number of the last message.
func (p *Publisher) Picture() api.Picture { return copied(p.shown) }

// first is a copy of the levels that are shown of a side.
func (p *Publisher) first(levels []api.Level) []api.Level {
	return copiedLevels(levels[:min(p.depth, len(levels))])
}

// trades is the messages of the trades among events, without numbers as yet; not true, if one of them can't be.
func trades(events []api.Event) ([]api.Data, bool) {
	var told []api.Data
	for _, e := range events {
		if e.Kind != api.EvTrade {
			continue
		}
		d := api.Data{Seq: 1, Kind: api.DataTrade, Side: e.Side, Price: e.Price, Qty: e.Qty}
		if !canBe(d) {
			return nil, false
		}
		told = append(told, d)
	}
	return told, true
}

// changes is the messages, without numbers as yet, by which the levels of a side come to be what they are now.
func changes(side int, before, now []api.Level) []api.Data {
	var told []api.Data
	tell := func(l api.Level) {
		told = append(told, api.Data{Kind: api.DataLevel, Side: side, Price: l.Price, Qty: l.Qty, Count: l.Count})
	}
	for len(before) > 0 || len(now) > 0 {
		switch ahead := firstOf(side, before, now); {
		case ahead < 0:
			tell(api.Level{Price: before[0].Price})
			before = before[1:]
		case ahead > 0:
			tell(now[0])
			now = now[1:]
		default:
			if before[0] != now[0] {
				tell(now[0])
			}
			before, now = before[1:], now[1:]
		}
	}
	return told
}

// firstOf is below 0 where the next better price is one that was shown, above 0 where it is one that is shown now, 0 where it is both; one list must have levels.
func firstOf(side int, before, now []api.Level) int {
	switch {
	case len(now) == 0:
		return -1
	case len(before) == 0:
		return 1
	}
	return order(side, before[0].Price, now[0].Price)
}
