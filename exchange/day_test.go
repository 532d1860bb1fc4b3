package exchange_test

import (
	"math"
	"testing"

	"bourse/api"
	"bourse/clearing"
	"bourse/exchange"
	. "bourse/sample"
)

func TestP26_6Turn(t *testing.T) {
	x := closed(t, 7, 8)
	before := asked(x)
	for _, y := range []struct {
		instrument uint32
		phase      int
		why        api.Errno
	}{
		{0, api.PreOpen, api.ErrInstrument}, {3, api.PreOpen, api.ErrInstrument}, {math.MaxUint32, 99, api.ErrInstrument},
		{1, api.Closed, api.ErrPhase}, {1, api.Opened, api.ErrPhase}, {1, api.Halted, api.ErrPhase}, {1, api.PreClose, api.ErrPhase}, {1, -1, api.ErrPhase}, {2, 5, api.ErrPhase}, {2, math.MinInt, api.ErrPhase},
	} {
		l, why := x.Turn(y.instrument, y.phase)
		Same(t, "Turn", why, y.why)
		SameList(t, "what is told", l, nil)
	}
	Same(t, "Seq", x.Seq(), 0)
	Same(t, "what can be asked", asked(x), before)

	l, why := x.Turn(2, api.PreOpen)
	Same(t, "Turn", why, api.OK)
	SameList(t, "what is told", l, []api.Report{{Seq: 1, Instrument: 2, Event: api.Event{Seq: 1, Kind: api.EvPhase, Reason: api.PreOpen, Price: 100}}})
	Same(t, "Phase", x.Phase(2), api.PreOpen)
	Same(t, "Phase", x.Phase(1), api.Closed)
}

// All that a turn tells is told to those whom it concerns.
func TestP26_6Day(t *testing.T) {
	x := closed(t, 7, 8)
	tells(t, x, 1, x.Send(buys(7, 1, 100, 1)), told{Rejected(Buy(1, 0, 0), api.ErrPhase), 0, []own{{7, 1}}})
	turns(t, x, 1, api.PreOpen)
	a, b, c := forTheDay(buys(7, 1, 102, 10)), peaked(sells(8, 1, 101, 9), 3), order(8, 2, api.Sell, api.Market, 0, 4)
	d := order(7, 2, api.Buy, api.Market, 0, 5)
	for i, q := range []api.Request{a, b, c, d} {
		tells(t, x, 1, x.Send(q), hears(ack(uint64(i+1), q), own{q.Member, q.Ref}))
	}
	Same(t, "Picture", x.Picture(1).Seq, 0)
	l, _ := x.Turn(1, api.Opened)
	tells(t, x, 1, l,
		hears(api.Event{Kind: api.EvPrice, Price: 102, Qty: 13, Reason: api.ByPressure}, everybody),
		hears(Traded(4, 3, api.Buy, 102, 4), own{7, 2}, own{8, 2}),
		hears(Traded(4, 2, api.Buy, 102, 1), own{7, 2}, own{8, 1}), hears(Traded(1, 2, api.Buy, 102, 8), own{7, 1}, own{8, 1}),
		hears(begins(api.Opened, 102), everybody))
	has(t, x, 7, 1, 13, "13.26", "0.00")
	Same(t, "Bar", x.Bar(1), api.Bar{Open: 102, High: 102, Low: 102, Close: 102, Volume: 13, Trades: 3})
	SameList(t, "Buys", x.Picture(1).Buys, []api.Level{{Price: 102, Qty: 2, Count: 1}})
	q := stops(8, 3, api.Sell, 90, 0, 1)
	tells(t, x, 1, x.Send(q), hears(stopped(1, q, 0), own{8, 3}))
	taken(t, x, sells(7, 3, 110, 7), forTheDay(sells(8, 4, 111, 1)))
	l, _ = x.Turn(1, api.PreClose)
	tells(t, x, 1, l, hears(stopped(1, q, api.ByDay), own{8, 3}), hears(begins(api.PreClose, 102), everybody))
	q = order(8, 5, api.Buy, api.Market, 0, 3)
	r := order(7, 5, api.Sell, api.Market, 0, 1)
	taken(t, x, q, r)
	l, _ = x.Turn(1, api.Closed)
	tells(t, x, 1, l,
		hears(api.Event{Kind: api.EvPrice, Price: 110, Qty: 3, Reason: api.BySurplus}, everybody),
		hears(Traded(7, 8, api.Buy, 110, 1), own{8, 5}, own{7, 5}), hears(Traded(7, 5, api.Buy, 110, 2), own{8, 5}, own{7, 3}),
		hears(Ended(1, 2, api.ByDay), own{7, 1}), hears(Ended(6, 1, api.ByDay), own{8, 4}), hears(begins(api.Closed, 110), everybody))
	keeps(t, x.Book(1), api.Book{Config: usual().Config, Sells: []api.Resting{{ID: 5, Member: 7, Type: api.Limit, Price: 110, Visible: 5}}, High: 8, Seq: 24})
	tells(t, x, 1, x.Send(cancels(7, 3)), hears(Ended(5, 5, api.ByOwner), own{7, 3}))
	for _, m := range []uint32{7, 8} {
		s, _ := x.Standing(m, 1)
		Same(t, "Count", s.Count, 0)
	}
}

// A Market that is left behind a call is told to its member.
func TestP26_6Left(t *testing.T) {
	x := closed(t, 7)
	turns(t, x, 1, api.PreOpen)
	taken(t, x, order(7, 1, api.Sell, api.Market, 0, 4))
	l, _ := x.Turn(1, api.Opened)
	tells(t, x, 1, l, hears(Ended(1, 4, api.ByRest), own{7, 1}), hears(begins(api.Opened, 100), everybody))
}

func TestP26_6Swap(t *testing.T) {
	x := opened(t, 7, 8)
	taken(t, x, buys(7, 1, 100, 5), stops(8, 1, api.Buy, 130, 0, 1))
	before := asked(x)
	for _, kind := range append(NoKinds(), Kinds()...) {
		for _, i := range []uint32{0, 3, math.MaxUint32} {
			Same(t, "Swap", x.Swap(i, kind), api.ErrInstrument)
		}
	}
	for _, kind := range NoKinds() {
		Same(t, "Swap", x.Swap(1, kind), api.ErrEngine)
		Same(t, "Swap", x.Swap(2, kind), api.ErrEngine)
	}
	for _, kind := range append(Kinds(), api.Tree) {
		Same(t, "Swap", x.Swap(1, kind), api.OK)
		Same(t, "Swap", x.Swap(2, kind), api.OK)
		Same(t, "what can be asked", asked(x), before)
	}
	q := sells(8, 2, 100, 2)
	tells(t, x, 1, x.Send(q), hears(ack(2, q), own{8, 2}), hears(Traded(2, 1, api.Sell, 100, 2), own{8, 2}, own{7, 1}))
}

// All that is open of a member ends, instrument by instrument: the orders, then the stop orders.
func TestP26_7Kill(t *testing.T) {
	x := opened(t, 7, 8)
	turns(t, x, 2, api.PreOpen)
	a, b := stops(7, 4, api.Buy, 130, 0, 1), stops(7, 3, api.Sell, 70, 0, 1)
	taken(t, x, sells(7, 1, 110, 5), buys(8, 1, 90, 5), peaked(buys(7, 2, 91, 6), 2), a, stops(8, 2, api.Buy, 130, 0, 1), b)
	taken(t, x, in(2, buys(7, 9, 91, 6)), in(2, sells(8, 9, 91, 6)), in(2, order(7, 1, api.Sell, api.Market, 0, 2)))
	seq, other := x.Seq(), x.Book(2).Seq
	l, why := x.Kill(7)
	Same(t, "Kill", why, api.OK)
	Same(t, "Seq", x.Seq(), seq+6)
	Same(t, "what is told", len(l), 6)
	SameList(t, "of the second one", l[4:], []api.Report{
		{Seq: seq + 5, Member: 7, Instrument: 2, Ref: 9, Event: api.Event{Seq: other + 1, Kind: api.EvCancel, ID: 1, Qty: 6, Reason: api.ByOwner}},
		{Seq: seq + 6, Member: 7, Instrument: 2, Ref: 1, Event: api.Event{Seq: other + 2, Kind: api.EvCancel, ID: 3, Qty: 2, Reason: api.ByOwner}},
	})
	want := []api.Event{Ended(1, 5, api.ByOwner), Ended(3, 6, api.ByOwner), stopped(1, a, api.ByOwner), stopped(3, b, api.ByOwner)}
	for i, ref := range []uint64{1, 2, 4, 3} {
		e := want[i]
		e.Seq = x.Book(1).Seq - 3 + uint64(i)
		Same(t, "what is told", l[i], api.Report{Seq: seq + 1 + uint64(i), Member: 7, Instrument: 1, Ref: ref, Event: e})
	}
	for _, i := range []uint32{1, 2} {
		s, _ := x.Standing(7, i)
		Same(t, "Standing", s, api.Standing{Limits: open, Killed: true})
		s, _ = x.Standing(8, i)
		Same(t, "Killed", s.Killed, false)
		Same(t, "Count", s.Count, 1)
		refuses(t, x, in(i, buys(7, 5, 90, 1)), api.ErrKilled)
	}
	l, why = x.Kill(7)
	Same(t, "Kill", why, api.OK)
	SameList(t, "what is told", l, nil)
	SameList(t, "Buys", x.Picture(1).Buys, []api.Level{{Price: 90, Qty: 5, Count: 1}})

	Same(t, "Revive", x.Revive(7), api.OK)
	for _, i := range []uint32{1, 2} {
		q := in(i, buys(7, 5, 90, 1))
		taken(t, x, q)
	}
	for _, m := range []uint32{0, 9, math.MaxUint32} {
		before := asked(x)
		l, why := x.Kill(m)
		Same(t, "Kill", why, api.ErrNobody)
		SameList(t, "what is told", l, nil)
		Same(t, "Revive", x.Revive(m), api.ErrNobody)
		Same(t, "what can be asked", asked(x), before)
	}
}

// It is killed where it is, and not where it comes later.
func TestP26_7ListedLater(t *testing.T) {
	x := bare(t)
	x.Join(7, open, 0, 0)
	l, why := x.Kill(7)
	Same(t, "Kill", why, api.OK)
	SameList(t, "what is told", l, nil)
	x.List("ABC", usual(), 1, 10)
	s, _ := x.Standing(7, 1)
	Same(t, "Killed", s.Killed, false)
	x.Kill(7)
	x.List("XYZ", usual(), 1, 10)
	turns(t, x, 1, api.PreOpen)
	turns(t, x, 2, api.PreOpen)
	refuses(t, x, buys(7, 1, 100, 1), api.ErrKilled)
	taken(t, x, in(2, buys(7, 1, 100, 1)))
	Same(t, "Revive", x.Revive(7), api.OK)
	taken(t, x, buys(7, 1, 100, 1))
}

// settled is what Settle answers, told as texts.
func settled(t *testing.T, x *exchange.Exchange) ([]clearing.Call, []clearing.Fall, []api.Report) {
	t.Helper()
	calls, falls, l, why := x.Settle()
	Same(t, "Settle", why, api.OK)
	return calls, falls, l
}

func TestP26_8Phase(t *testing.T) {
	x := closed(t, 7, 8)
	settled(t, x)
	for _, p := range []int{api.PreOpen, api.Opened, api.Halted, api.PreClose} {
		turns(t, x, 2, p)
		before, seq := asked(x), x.Seq()
		calls, falls, l, why := x.Settle()
		Same(t, "Settle", why, api.ErrPhase)
		Same(t, "what is told", len(calls)+len(falls)+len(l), 0)
		Same(t, "what can be asked", asked(x), before)
		Same(t, "Seq", x.Seq(), seq)
	}
	turns(t, x, 2, api.Closed)
	calls, falls, l := settled(t, x)
	Same(t, "what is told", len(calls)+len(falls)+len(l), 0)
	y := bare(t)
	settled(t, y)
}

// Each instrument closes at its own reference, and needs its own margin.
func TestP26_8Rates(t *testing.T) {
	x := bare(t)
	x.List("ABC", usual(), 1, 10)
	x.List("XYZ", usual(), 1, 3)
	x.Join(7, open, 100, 0)
	x.Join(8, open, 100, 0)
	for i := range uint32(2) {
		turns(t, x, i+1, api.PreOpen, api.Opened)
		taken(t, x, in(i+1, buys(7, 1, 110, 10)), in(i+1, sells(8, 1, 110, 10)))
		turns(t, x, i+1, api.PreClose)
	}
	taken(t, x, in(2, buys(7, 2, 130, 1)), in(2, sells(8, 2, 130, 1)))
	turns(t, x, 1, api.Closed)
	turns(t, x, 2, api.Closed)
	calls, falls, l := settled(t, x)
	Same(t, "falls", len(falls)+len(l), 0)
	Same(t, "calls", len(calls), 2)
	// ABC at 100: 1.00 are lost, 1.00 needed; XYZ at 130: 2.00 are gained, 14.30 / 3 needed.
	for i, want := range []struct {
		member     uint32
		need, have string
	}{{7, "5.77", "1.00"}, {8, "5.77", "-1.00"}} {
		Same(t, "Member", calls[i].Member, want.member)
		Same(t, "Need", calls[i].Need.Text(), want.need)
		Same(t, "Have", calls[i].Have.Text(), want.have)
	}
	s, _ := x.Margin(7)
	Same(t, "Called", s.Called, true)
	Same(t, "Pay", x.Pay(7, 477), api.OK)
	calls, falls, _ = settled(t, x)
	Same(t, "calls", len(calls), 0)
	Same(t, "falls", len(falls), 1)
	Same(t, "Member", falls[0].Member, 8)
	Same(t, "Own", falls[0].Cover.Own, 100)
	Same(t, "Left", falls[0].Cover.Left, 0)
	s, _ = x.Margin(8)
	Same(t, "Out", s.Out, true)
	Same(t, "Fund", s.Fund, 0)
	Same(t, "Pay", x.Pay(8, 1), api.ErrDefault)
}

// fallen is an exchange at whose last Settle the members 8 and 3 fell, with what was told of that; they had orders in both books.
func fallen(t *testing.T) (*exchange.Exchange, []clearing.Fall, []api.Report) {
	t.Helper()
	x := closed(t, 8, 7, 3)
	for i := range uint32(2) {
		turns(t, x, i+1, api.PreOpen, api.Opened)
		for n, m := range []uint32{8, 7, 3} {
			taken(t, x, in(i+1, buys(m, 1, 90-n, 5)), in(i+1, sells(m, 2, 110+n, 5)))
		}
	}
	taken(t, x, sells(8, 9, 100, 5), sells(3, 9, 100, 5), buys(7, 9, 100, 10))
	x.Pay(7, 100000)
	for i := range uint32(2) {
		turns(t, x, i+1, api.PreClose, api.Closed)
	}
	calls, falls, l := settled(t, x)
	Same(t, "calls", len(calls), 2)
	Same(t, "what is told", len(falls)+len(l), 0)
	_, falls, l = settled(t, x)
	return x, falls, l
}

// Who falls is killed, by members rising: all is told of the first one ahead of the second one.
func TestP26_8Falls(t *testing.T) {
	x, falls, l := fallen(t)
	Same(t, "falls", len(falls), 2)
	Same(t, "Member", falls[0].Member, 3)
	Same(t, "Member", falls[1].Member, 8)
	Same(t, "what is told", len(l), 8)
	at := 0
	for _, m := range []uint32{3, 8} {
		for i := range uint32(2) {
			for _, ref := range []uint64{1, 2} {
				r := l[at]
				Same(t, "Seq", r.Seq, x.Seq()-7+uint64(at))
				Same(t, "Event", r.Event.Kind, api.EvCancel)
				Same(t, "Reason", r.Event.Reason, api.ByOwner)
				r.Seq, r.Event = 0, api.Event{}
				Same(t, "what is told", r, api.Report{Member: m, Instrument: i + 1, Ref: ref})
				at++
			}
		}
	}
	for i := range uint32(2) {
		for _, o := range append(x.Book(i+1).Buys, x.Book(i+1).Sells...) {
			Same(t, "whose it is", o.Member, 7)
		}
		s, _ := x.Standing(8, i+1)
		Same(t, "Killed", s.Killed, true)
		s, _ = x.Standing(7, i+1)
		Same(t, "Killed", s.Killed, false)
		Same(t, "Count", s.Count, 2)
	}
}

// Nothing of a member that is out is taken, be it revived or not.
func TestP26_17Out(t *testing.T) {
	x, _, _ := fallen(t)
	for range 2 {
		for i := range uint32(2) {
			turns(t, x, i+1, api.PreOpen)
			for _, k := range []int{0, api.New, api.Cancel, api.Replace, api.PlaceStop, api.WithdrawStop, 6} {
				refuses(t, x, in(i+1, asks(8, k, 0, 1)), api.ErrDefault)
				refuses(t, x, in(i+1, asks(3, k, 5, 1)), api.ErrDefault)
			}
			refuses(t, x, in(i+1, buys(8, 50, 100, 1)), api.ErrDefault)
			refuses(t, x, in(9, buys(8, 50, 100, 1)), api.ErrInstrument)
			taken(t, x, in(i+1, buys(7, x.Seq(), 100, 1)))
			turns(t, x, i+1, api.Opened, api.PreClose, api.Closed)
		}
		_, falls, l := settled(t, x)
		Same(t, "falls", len(falls)+len(l), 0)
		Same(t, "Revive", x.Revive(8), api.OK)
		l, why := x.Kill(3)
		Same(t, "Kill", why, api.OK)
		SameList(t, "what is told", l, nil)
	}
	x.List("NEW", usual(), 1, 10)
	turns(t, x, 3, api.PreOpen)
	refuses(t, x, in(3, buys(8, 1, 100, 1)), api.ErrDefault)
	Same(t, "Join", x.Join(8, open, 0, 0), api.ErrThere)
}

// Lists that Settle answers are nobody else's.
func TestP26_8Memory(t *testing.T) {
	x, falls, l := fallen(t)
	y, _, _ := fallen(t)
	for i := range falls {
		Spoil(falls[i].Cover.Others, 77)
	}
	Spoil(falls, clearing.Fall{})
	Spoil(l, api.Report{Ref: 77})
	Same(t, "what can be asked", asked(x), asked(y))
}
