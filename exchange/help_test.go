package exchange_test

import (
	"fmt"
	"math"
	"strings"
	"testing"

	"bourse/api"
	"bourse/exchange"
	. "bourse/sample"
)

// open is limits that stand in nobody's way.
var open = api.Limits{Order: math.MaxUint64, Open: math.MaxUint64, Count: math.MaxInt, Position: math.MaxUint64, Worth: math.MaxUint64}

// usual is the session of most tests.
func usual() api.Session {
	return api.Session{Config: api.Config{Capacity: 9}, Engine: api.Tree, Reference: 100, Static: 50, Dynamic: 20, Stops: 4}
}

// bare is an exchange without instruments and members; its house has 5.00.
func bare(t *testing.T) *exchange.Exchange {
	t.Helper()
	x, why := exchange.New(api.Tariff{Maker: 1, Taker: 2, By: 100}, 500)
	if x == nil || why != api.OK {
		t.Fatalf("New: %v", why)
	}
	return x
}

// closed is an exchange of the instruments ABC and XYZ, with members of 1000.00 each and a fund of 10.00.
func closed(t *testing.T, members ...uint32) *exchange.Exchange {
	t.Helper()
	x := bare(t)
	for i, name := range []string{"ABC", "XYZ"} {
		n, why := x.List(name, usual(), 1, 10)
		Same(t, "List", why, api.OK)
		Same(t, "List", n, uint32(i+1))
	}
	for _, m := range members {
		Same(t, "Join", x.Join(m, open, 1000, 100000), api.OK)
	}
	return x
}

// opened is the same, with ABC in continuous trading.
func opened(t *testing.T, members ...uint32) *exchange.Exchange {
	t.Helper()
	x := closed(t, members...)
	turns(t, x, 1, api.PreOpen, api.Opened)
	return x
}

// turns turns an instrument through phases.
func turns(t *testing.T, x *exchange.Exchange, instrument uint32, phases ...int) {
	t.Helper()
	for _, p := range phases {
		_, why := x.Turn(instrument, p)
		Same(t, "Turn", why, api.OK)
	}
	Same(t, "Phase", x.Phase(instrument), phases[len(phases)-1])
}

// asks is a request of a member in ABC.
func asks(member uint32, kind int, ref, target uint64) api.Request {
	return api.Request{Member: member, Instrument: 1, Kind: kind, Ref: ref, Target: target}
}

// buys and sells are requests for a Limit.
func buys(member uint32, ref uint64, price int, qty uint64) api.Request {
	return order(member, ref, api.Buy, api.Limit, price, qty)
}

func sells(member uint32, ref uint64, price int, qty uint64) api.Request {
	return order(member, ref, api.Sell, api.Limit, price, qty)
}

func order(member uint32, ref uint64, side, kind, price int, qty uint64) api.Request {
	q := asks(member, api.New, ref, 0)
	q.Side, q.Type, q.Price, q.Qty = side, kind, price, qty
	return q
}

func cancels(member uint32, target uint64) api.Request { return asks(member, api.Cancel, 0, target) }

func replaces(member uint32, ref, target uint64, price int, qty uint64) api.Request {
	q := asks(member, api.Replace, ref, target)
	q.Price, q.Qty = price, qty
	return q
}

// stops is a request for a stop order of a Limit, or, at the price 0, of a Market.
func stops(member uint32, ref uint64, side, trigger, price int, qty uint64) api.Request {
	q := order(member, ref, side, api.Limit, price, qty)
	q.Kind, q.Trigger = api.PlaceStop, trigger
	if price == 0 {
		q.Type = api.Market
	}
	return q
}

// for the day, in another instrument, with a peak.
func forTheDay(q api.Request) api.Request {
	q.Day = true
	return q
}

func in(instrument uint32, q api.Request) api.Request {
	q.Instrument = instrument
	return q
}

func peaked(q api.Request, peak uint64) api.Request {
	q.Peak = peak
	return q
}

// own is a member's own number; everybody is that of none.
type own struct {
	member uint32
	ref    uint64
}

var everybody = own{}

// told is an event, and to whom it is told; target: as what the members meant.
type told struct {
	event  api.Event
	target uint64
	owners []own
}

func hears(e api.Event, owners ...own) told { return told{event: e, owners: owners} }

// tells holds reports that were just told of an instrument against these, numbered up to the last one, their events up to the floor's.
func tells(t *testing.T, x *exchange.Exchange, instrument uint32, got []api.Report, want ...told) {
	t.Helper()
	var l []api.Report
	seq := x.Book(instrument).Seq - uint64(len(want))
	for _, w := range want {
		seq++
		for _, o := range w.owners {
			w.event.Seq = seq
			l = append(l, api.Report{Member: o.member, Instrument: instrument, Ref: o.ref, Target: w.target, Event: w.event})
		}
	}
	SameList(t, "what is told", got, reported(x, l))
}

// reported is reports with the numbers of the last ones.
func reported(x *exchange.Exchange, l []api.Report) []api.Report {
	for i := range l {
		l[i].Seq = x.Seq() - uint64(len(l)-1-i)
	}
	return l
}

// taken lets requests be sent that must not be refused.
func taken(t *testing.T, x *exchange.Exchange, requests ...api.Request) {
	t.Helper()
	for _, q := range requests {
		for _, r := range x.Send(q) {
			if r.Event.Kind == api.EvReject {
				t.Fatalf("refused: %+v", r)
			}
		}
	}
}

// refuses sends a request that must be refused ahead of the floor, and change nothing but Seq.
func refuses(t *testing.T, x *exchange.Exchange, q api.Request, why api.Errno) {
	t.Helper()
	before, seq := asked(x), x.Seq()
	got := x.Send(q)
	SameList(t, "what is told", got, []api.Report{{Seq: seq + 1, Member: q.Member, Instrument: q.Instrument, Ref: q.Ref, Target: q.Target, Event: api.Event{Kind: api.EvReject, Code: why}}})
	Same(t, "Seq", x.Seq(), seq+1)
	Same(t, "what can be asked", asked(x), before)
}

// asked is all that can be asked of an exchange but its Seq, of members and instruments that there may be.
func asked(x *exchange.Exchange) string {
	var b strings.Builder
	fmt.Fprintln(&b, x.Names(), x.Fees().Text())
	for i := range uint32(len(x.Names()) + 2) {
		fmt.Fprintf(&b, "%d: %d %+v %+v %+v\n%s", i, x.Phase(i), x.Book(i), x.Picture(i), x.Bar(i), x.Page(i, 20))
		for _, m := range somebody() {
			p := x.Position(m, i)
			s, there := x.Standing(m, i)
			fmt.Fprintln(&b, m, p.Qty, p.Cost.Text(), p.Gain.Text(), s, there)
		}
	}
	for _, m := range somebody() {
		s, there := x.Margin(m)
		fmt.Fprintln(&b, m, x.Cash(m).Text(), s.Member, s.Fund, s.Margin.Text(), s.Called, s.Out, there)
	}
	return b.String()
}

// somebody is members that there may be.
func somebody() []uint32 { return []uint32{0, 1, 2, 3, 7, 8, 9, math.MaxUint32} }

// cash holds a member's balance against an amount's text.
func cash(t *testing.T, x *exchange.Exchange, member uint32, want string) {
	t.Helper()
	Same(t, "Cash", x.Cash(member).Text(), want)
}

// has holds a member's position against its numbers.
func has(t *testing.T, x *exchange.Exchange, member, instrument uint32, qty int64, cost, gain string) {
	t.Helper()
	p := x.Position(member, instrument)
	Same(t, "Qty", p.Qty, qty)
	Same(t, "Cost", p.Cost.Text(), cost)
	Same(t, "Gain", p.Gain.Text(), gain)
}

// ack is what tells that a request's order was taken under an ID.
func ack(id uint64, q api.Request) api.Event {
	return api.Event{Kind: api.EvAck, ID: id, Member: q.Member, Side: q.Side, Type: q.Type, Price: q.Price, Qty: q.Qty, Peak: q.Peak}
}

// stopped is what tells that a request's stop order was taken under a number, or is gone for a reason.
func stopped(number uint64, q api.Request, reason int) api.Event {
	return api.Event{Kind: api.EvStop, ID: number, Target: uint64(q.Trigger), Member: q.Member, Side: q.Side, Type: q.Type, Price: q.Price, Qty: q.Qty, Peak: q.Peak, Reason: reason}
}

// begins tells that a phase does, about a reference.
func begins(phase, reference int) api.Event {
	return api.Event{Kind: api.EvPhase, Reason: phase, Price: reference}
}
