package exchange

import (
	"slices"

	"bourse/api"
)

// passage is events that a floor told of a request, on their way to those whom they concern.
type passage struct {
	*instrument
	asked  api.Request
	events []api.Event
	letGo  api.Event // the last EvTrigger among those that were gone through
}

// workOff tells what a floor told, and lets all books have it.
func (x *Exchange) workOff(p *passage) []api.Report {
	told := x.tell(p.reports()...)
	x.enter(p)
	return told
}

// tell numbers reports, and sends each of them to its member as a letter, too.
func (x *Exchange) tell(reports ...api.Report) []api.Report {
	told := slices.Clone(reports)
	for i := range told {
		x.seq++
		told[i].Seq = x.seq
		x.mail(told[i])
	}
	return told
}

// reports is what is told of all events, without numbers as yet.
func (p *passage) reports() []api.Report {
	var out []api.Report
	for _, e := range p.events {
		out = append(out, p.reportsOf(e)...)
	}
	return out
}

// reportsOf is what is told of an event, to whom it concerns.
func (p *passage) reportsOf(e api.Event) []api.Report {
	switch e.Kind {
	case api.EvAck:
		o := own{e.Member, p.comer(e).ref}
		p.orders.enter(e.ID, o)
		return p.to(e, o)
	case api.EvReject:
		l := p.to(e, p.comer(e))
		if !p.isLetGo(e) {
			l[0].Target = p.asked.Target
		}
		return l
	case api.EvTrade:
		return p.to(e, p.orders.owners[e.ID], p.orders.owners[e.Other])
	case api.EvCancel, api.EvRefresh:
		return p.to(e, p.orders.owners[e.ID])
	case api.EvStop:
		if e.Reason == 0 {
			p.stops.enter(e.ID, p.asker())
		}
		return p.to(e, p.stops.owners[e.ID])
	case api.EvTrigger:
		p.letGo = e
		return p.to(e, p.stops.owners[e.ID])
	}
	return p.to(e, own{})
}

// to is the reports of an event to those to whom an order is, or to everybody.
func (p *passage) to(e api.Event, owners ...own) []api.Report {
	var l []api.Report
	for _, o := range owners {
		l = append(l, api.Report{Member: o.member, Instrument: p.number, Ref: o.ref, Event: e})
	}
	return l
}

func (p *passage) asker() own { return own{p.asked.Member, p.asked.Ref} }

// isLetGo tells whether what came, or was refused, is the order of a stop order that was let go.
func (p *passage) isLetGo(e api.Event) bool {
	return p.letGo.Kind == api.EvTrigger && p.letGo.Other == e.ID
}

// comer is whose the order is that comes, or is refused.
func (p *passage) comer(e api.Event) own {
	if p.isLetGo(e) {
		return p.stops.owners[p.letGo.ID]
	}
	return p.asker()
}

// enter lets the books have what was told. (A deal that the accounts or clearing refuse is missing there, and there alone.)
func (x *Exchange) enter(p *passage) {
	p.desk.Behind(p.events)
	for _, e := range p.events {
		if e.Kind == api.EvTrade {
			d := p.deal(e)
			x.ledger.Book(d)
			x.house.Take(d)
		}
	}
	p.stats.Add(p.events)
	b := p.book()
	p.publisher.Publish(b.Depth(api.Buy, shownLevels), b.Depth(api.Sell, shownLevels), p.events)
}

// deal is a trade as one between members.
func (p *passage) deal(e api.Event) api.Deal {
	came, rested := p.orders.owners[e.ID].member, p.orders.owners[e.Other].member
	d := api.Deal{Instrument: p.number, Buyer: came, Seller: rested, Taker: e.Side, Price: e.Price, Qty: e.Qty}
	if e.Side == api.Sell {
		d.Buyer, d.Seller = rested, came
	}
	return d
}
