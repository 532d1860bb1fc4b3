package exchange_test

import (
	"math"
	"testing"

	"bourse/api"
	"bourse/exchange"
	. "bourse/sample"
)

func TestP26_4Examples(t *testing.T) {
	x := opened(t, 7, 8)
	tells(t, x, 1, x.Send(buys(7, 1, 100, 5)), hears(ack(1, buys(7, 1, 100, 5)), own{7, 1}))
	tells(t, x, 1, x.Send(sells(8, 1, 100, 2)),
		hears(ack(2, sells(8, 1, 100, 2)), own{8, 1}), hears(Traded(2, 1, api.Sell, 100, 2), own{8, 1}, own{7, 1}))
	refuses(t, x, buys(7, 1, 100, 1), api.ErrRef)
	tells(t, x, 1, x.Send(cancels(7, 9)), told{Rejected(Cancel(0), api.ErrTarget), 9, []own{{7, 0}}})
	refuses(t, x, buys(9, 1, 100, 1), api.ErrNobody)
}

// Each request has the fault, and such as come behind it.
func TestP26_4Refused(t *testing.T) {
	x := bare(t)
	x.List("ABC", usual(), 1, 10)
	x.Join(7, api.Limits{Order: 10, Open: 15, Count: 2, Position: 12, Worth: 1000}, 0, 0)
	x.Join(8, open, 0, 0)
	turns(t, x, 1, api.PreOpen, api.Opened)
	taken(t, x, buys(7, 1, 100, 9), sells(8, 1, 120, 5))
	taken(t, x, stops(8, 2, api.Buy, 130, 0, 1))
	for _, n := range []uint32{0, 2, 16, math.MaxUint32} {
		refuses(t, x, in(n, asks(99, 9, 0, 0)), api.ErrInstrument)
		refuses(t, x, in(n, buys(7, 2, 100, 1)), api.ErrInstrument)
	}
	for _, m := range []uint32{0, 6, 9, math.MaxUint32} {
		refuses(t, x, asks(m, 9, 0, 5), api.ErrNobody)
		refuses(t, x, buys(m, 0, -1, 0), api.ErrNobody)
	}
	for _, k := range []int{math.MinInt, -1, 0, 6, 9, 257, math.MaxInt} {
		refuses(t, x, asks(7, k, 0, 5), api.ErrKind)
		refuses(t, x, asks(8, k, 1, 1), api.ErrKind)
	}
	for _, k := range []int{api.New, api.Replace, api.PlaceStop} {
		for _, ref := range []uint64{0, 1} {
			refuses(t, x, asks(7, k, ref, 0), api.ErrRef)
			refuses(t, x, asks(8, k, ref, 1), api.ErrRef)
		}
		refuses(t, x, asks(8, k, 2, 1), api.ErrRef) // a stop order's
	}
	// What the desk refuses; of a stop order as of the order that it may come to.
	for _, x1 := range []struct {
		q   api.Request
		why api.Errno
	}{
		{buys(7, 2, -1, 11), api.ErrOrder}, {stops(7, 2, api.Buy, -1, -1, 11), api.ErrOrder}, {replaces(7, 2, 1, 100, 11), api.ErrOrder}, {replaces(7, 2, 9, 100, 11), api.ErrOrder},
		{buys(7, 2, 1, 7), api.ErrOpened}, {stops(7, 2, api.Sell, 1, 1, 7), api.ErrOpened},
		{buys(7, 2, 1, 4), api.ErrPosition}, {stops(7, 2, api.Buy, 1, 0, 4), api.ErrPosition},
		{sells(7, 2, 1001, 1), api.ErrWorth}, {stops(7, 2, api.Sell, 1, 1001, 1), api.ErrWorth}, {replaces(7, 2, 1, 112, 9), api.ErrWorth},
	} {
		refuses(t, x, x1.q, x1.why)
	}
	taken(t, x, sells(7, 2, 140, 5))
	refuses(t, x, sells(7, 3, 140, 1), api.ErrCount)
	refuses(t, x, stops(7, 3, api.Sell, 1, 0, 1), api.ErrCount)
	taken(t, x, replaces(7, 3, 2, 141, 5)) // in its place
	_, why := x.Kill(7)
	Same(t, "Kill", why, api.OK)
	for _, q := range []api.Request{buys(7, 4, 1, 1), replaces(7, 4, 3, 1, 1), stops(7, 4, api.Buy, 1, 1, 1)} {
		refuses(t, x, q, api.ErrKilled)
	}
	tells(t, x, 1, x.Send(cancels(7, 1)), told{Rejected(Cancel(1), api.ErrTarget), 1, []own{{7, 0}}})
	tells(t, x, 1, x.Send(asks(7, api.WithdrawStop, 0, 1)), told{Rejected(Cancel(0), api.ErrStop), 1, []own{{7, 0}}})
}

// Limits are those of each instrument by itself, and what was used in one is not used in another one.
func TestP26_4Instruments(t *testing.T) {
	x := bare(t)
	x.List("ABC", usual(), 1, 10)
	x.List("XYZ", usual(), 1, 10)
	x.Join(7, api.Limits{Order: 10, Open: 10, Count: 1, Position: 10, Worth: 1000}, 0, 0)
	x.Join(8, open, 0, 0)
	for i := range uint32(2) {
		turns(t, x, i+1, api.PreOpen, api.Opened)
		q := in(i+1, buys(7, 5, 100, 10))
		tells(t, x, i+1, x.Send(q), hears(ack(1, q), own{7, 5}))
		refuses(t, x, in(i+1, buys(7, 6, 100, 1)), api.ErrCount)
		q = in(i+1, sells(8, 5, 100, 4))
		tells(t, x, i+1, x.Send(q), hears(ack(2, q), own{8, 5}), hears(Traded(2, 1, api.Sell, 100, 4), own{8, 5}, own{7, 5}))
		has(t, x, 7, i+1, 4, "4.00", "0.00")
		Same(t, "Bar", x.Bar(i+1).Volume, 4)
	}
	refuses(t, x, in(2, buys(8, 5, 100, 1)), api.ErrRef)
	q := in(2, cancels(7, 5))
	tells(t, x, 2, x.Send(q), hears(Ended(1, 6, api.ByOwner), own{7, 5}))
	Same(t, "Buys", len(x.Book(1).Buys), 1)
}

// What the floor refuses is told with the member's own numbers, and with the event as the floor told it.
func TestP26_5FloorRefuses(t *testing.T) {
	x := opened(t, 7, 8)
	taken(t, x, sells(8, 1, 100, 5))
	reject := func(c api.Command, why api.Errno, ref, target uint64) told {
		return told{Rejected(c, why), target, []own{{7, ref}}}
	}
	for _, x1 := range []struct {
		q    api.Request
		want told
	}{
		{buys(7, 3, -1, 5), reject(Buy(2, 0, 0), api.ErrPrice, 3, 0)},
		{buys(7, 3, 151, 5), reject(Buy(2, 0, 0), api.ErrBand, 3, 0)},
		{buys(7, 3, 99, 0), reject(Buy(2, 0, 0), api.ErrQty, 3, 0)},
		{order(7, 3, 3, 1, 99, 1), reject(Buy(2, 0, 0), api.ErrSide, 3, 0)},
		{order(7, 3, 1, 6, 99, 1), reject(Buy(2, 0, 0), api.ErrType, 3, 0)},
		{peaked(buys(7, 3, 99, 5), 6), reject(Buy(2, 0, 0), api.ErrPeak, 3, 0)},
		{order(7, 3, api.Buy, api.PostOnly, 100, 1), reject(Buy(2, 0, 0), api.ErrCross, 3, 0)},
		{replaces(7, 3, 4, 99, 1), reject(Replace(0, 2, 0, 0), api.ErrTarget, 3, 4)},
		{replaces(7, 3, 1, 99, 1), reject(Replace(0, 2, 0, 0), api.ErrTarget, 3, 1)}, // another member's
		{asks(7, api.Cancel, 3, 1), reject(Cancel(0), api.ErrTarget, 3, 1)},
		{asks(7, api.Cancel, 1<<63, math.MaxUint64), reject(Cancel(0), api.ErrTarget, 1<<63, math.MaxUint64)},
		{asks(7, api.WithdrawStop, 3, 1), reject(Cancel(0), api.ErrStop, 3, 1)},
		{stops(7, 3, api.Buy, -1, 0, 1), reject(Buy(1, 0, 0), api.ErrTrigger, 3, 0)},
		{stops(7, 3, api.Buy, 5, -1, 1), reject(Buy(1, 0, 0), api.ErrPrice, 3, 0)},
	} {
		x1.want.target = x1.q.Target
		tells(t, x, 1, x.Send(x1.q), x1.want)
	}
	// A target of a New and of a stop order is told, and else plays no part.
	q := buys(7, 3, 99, 0)
	q.Target = 12
	tells(t, x, 1, x.Send(q), told{Rejected(Buy(2, 0, 0), api.ErrQty), 12, []own{{7, 3}}})
	taken(t, x, buys(7, 3, 99, 1)) // what was refused is not used
	tells(t, x, 1, x.Send(cancels(7, 3)), hears(Ended(2, 1, api.ByOwner), own{7, 3}))
	// It is gone, and its ID is meant all the same.
	tells(t, x, 1, x.Send(cancels(7, 3)), told{Rejected(Cancel(2), api.ErrTarget), 3, []own{{7, 0}}})
	tells(t, x, 1, x.Send(replaces(7, 4, 3, 99, 1)), told{Rejected(Replace(2, 3, 0, 0), api.ErrTarget), 3, []own{{7, 4}}})
}

// A field that a request's kind does not have plays no part.
func TestP26_4OtherFields(t *testing.T) {
	x := opened(t, 7, 8)
	wild := func(q api.Request) api.Request {
		q.Side, q.Type, q.Price, q.Qty, q.Peak, q.Trigger, q.Day = 77, -5, math.MinInt, math.MaxUint64, 9, api.Ticks, true
		return q
	}
	q := buys(7, 1, 100, 5)
	q.Target, q.Trigger = 9, -1
	tells(t, x, 1, x.Send(q), hears(ack(1, q), own{7, 1}))
	q = stops(7, 2, api.Buy, 130, 131, 5)
	q.Target, q.Day = 1, true
	tells(t, x, 1, x.Send(q), hears(stopped(1, q, 0), own{7, 2}))
	q = replaces(7, 3, 1, 101, 4)
	q.Side, q.Type, q.Trigger, q.Day = api.Sell, api.FOK, -1, true
	tells(t, x, 1, x.Send(q), hears(Ended(1, 5, api.ByReplace), own{7, 1}), hears(ack(2, buys(7, 3, 101, 4)), own{7, 3}))
	tells(t, x, 1, x.Send(wild(asks(7, api.Cancel, 1, 3))), hears(Ended(2, 4, api.ByOwner), own{7, 3}))
	tells(t, x, 1, x.Send(wild(asks(7, api.WithdrawStop, 1, 2))), hears(stopped(1, stops(7, 2, api.Buy, 130, 131, 5), api.ByOwner), own{7, 2}))
}

// Numbers of members are their own: the same ones of two members, and of orders and stop orders, are not mixed up.
func TestP26_4OwnNumbers(t *testing.T) {
	x := opened(t, 7, 8)
	for i, m := range []uint32{7, 8} {
		taken(t, x, buys(m, 1, 90+i, 5), stops(m, 2, api.Buy, 130, 0, uint64(5+i)), buys(m, math.MaxUint64, 80+i, 5))
	}
	tells(t, x, 1, x.Send(cancels(8, 1)), hears(Ended(3, 5, api.ByOwner), own{8, 1}))
	tells(t, x, 1, x.Send(cancels(7, math.MaxUint64)), hears(Ended(2, 5, api.ByOwner), own{7, math.MaxUint64}))
	// An order is no stop order, and the other way about.
	tells(t, x, 1, x.Send(cancels(7, 2)), told{Rejected(Cancel(0), api.ErrTarget), 2, []own{{7, 0}}})
	tells(t, x, 1, x.Send(asks(7, api.WithdrawStop, 5, 1)), told{Rejected(Cancel(0), api.ErrStop), 1, []own{{7, 5}}})
	tells(t, x, 1, x.Send(asks(8, api.WithdrawStop, 0, 2)), hears(stopped(2, stops(8, 2, api.Buy, 130, 0, 6), api.ByOwner), own{8, 2}))
	tells(t, x, 1, x.Send(asks(8, api.WithdrawStop, 0, 2)), told{Rejected(Cancel(2), api.ErrStop), 2, []own{{8, 0}}})
	// The next stop order has the number behind the last one that was taken.
	tells(t, x, 1, x.Send(stops(8, 3, api.Buy, -1, 0, 1)), told{Rejected(Buy(3, 0, 0), api.ErrTrigger), 0, []own{{8, 3}}})
	tells(t, x, 1, x.Send(stops(8, 3, api.Buy, 130, 0, 1)), hears(stopped(3, stops(8, 3, api.Buy, 130, 0, 1), 0), own{8, 3}))
}

// An order of a stop order is the member's under the stop order's own number, whoever let it go.
func TestP26_5Triggered(t *testing.T) {
	x := opened(t, 7, 8)
	first, second := stops(7, 1, api.Buy, 100, 101, 5), stops(8, 9, api.Buy, 100, 0, 1)
	tells(t, x, 1, x.Send(first), hears(stopped(1, first, 0), own{7, 1}))
	tells(t, x, 1, x.Send(second), hears(stopped(2, second, 0), own{8, 9}))
	taken(t, x, sells(8, 1, 100, 3))
	q := buys(8, 2, 100, 1)
	tells(t, x, 1, x.Send(q),
		hears(ack(2, q), own{8, 2}), hears(Traded(2, 1, api.Buy, 100, 1), own{8, 2}, own{8, 1}),
		hears(Triggered(1, 3), own{7, 1}), hears(ack(3, buys(7, 1, 101, 5)), own{7, 1}), hears(Traded(3, 1, api.Buy, 100, 2), own{7, 1}, own{8, 1}),
		hears(Triggered(2, 4), own{8, 9}), hears(ack(4, order(8, 9, api.Buy, api.Market, 0, 1)), own{8, 9}), hears(Ended(4, 1, api.ByRest), own{8, 9}))
	refuses(t, x, buys(7, 1, 100, 1), api.ErrRef)
	// It is meant by that number now.
	tells(t, x, 1, x.Send(replaces(7, 2, 1, 99, 2)), hears(Ended(3, 3, api.ByReplace), own{7, 1}), hears(ack(5, buys(7, 2, 99, 2)), own{7, 2}))
	tells(t, x, 1, x.Send(asks(7, api.WithdrawStop, 0, 1)), told{Rejected(Cancel(1), api.ErrStop), 1, []own{{7, 0}}})
	// One that is met at once.
	third := stops(8, 3, api.Sell, 100, 99, 3)
	tells(t, x, 1, x.Send(third), hears(stopped(3, third, 0), own{8, 3}), hears(Triggered(3, 6), own{8, 3}),
		hears(ack(6, sells(8, 3, 99, 3)), own{8, 3}), hears(Traded(6, 5, api.Sell, 99, 2), own{8, 3}, own{7, 2}))
}

// What is refused of a stop order that was let go is told to its member, also where several come with one ID.
func TestP26_5TriggeredAndRefused(t *testing.T) {
	x := opened(t, 7, 8)
	taken(t, x, sells(8, 1, 100, 1), sells(8, 2, 149, 9))
	far, near, dear := stops(7, 1, api.Buy, 100, 0, 5), stops(7, 2, api.Buy, 100, 90, 5), stops(8, 3, api.Buy, 100, 151, 1)
	taken(t, x, dear, far, near)
	q := buys(8, 4, 100, 1)
	tells(t, x, 1, x.Send(q),
		hears(ack(3, q), own{8, 4}), hears(Traded(3, 1, api.Buy, 100, 1), own{8, 4}, own{8, 1}),
		hears(Triggered(1, 4), own{8, 3}), hears(Rejected(Buy(4, 0, 0), api.ErrBand), own{8, 3}),
		hears(Triggered(2, 4), own{7, 1}), hears(Rejected(Buy(4, 0, 0), api.ErrJump), own{7, 1}),
		hears(api.Event{Kind: api.EvHalt, Price: 149}, everybody),
		hears(Triggered(3, 4), own{7, 2}), hears(Rejected(Buy(4, 0, 0), api.ErrHalted), own{7, 2}),
		hears(begins(api.Halted, 100), everybody))
	Same(t, "Phase", x.Phase(1), api.Halted)
	for _, r := range []uint64{1, 2} {
		refuses(t, x, buys(7, r, 100, 1), api.ErrRef)
		tells(t, x, 1, x.Send(cancels(7, r)), told{Rejected(Cancel(0), api.ErrTarget), r, []own{{7, 0}}})
	}
	tells(t, x, 1, x.Send(buys(7, 3, 100, 1)), hears(ack(4, buys(7, 3, 100, 1)), own{7, 3}))
}

// A halt ends the stop orders that wait: each is told to its member.
func TestP26_5Halt(t *testing.T) {
	x := opened(t, 7, 8)
	a, b := stops(7, 1, api.Buy, 140, 0, 5), stops(8, 1, api.Sell, 60, 60, 5)
	taken(t, x, sells(8, 2, 121, 1), a, b)
	q := buys(7, 2, 121, 1)
	q.Target = 1
	tells(t, x, 1, x.Send(q),
		told{Rejected(Buy(2, 0, 0), api.ErrJump), 1, []own{{7, 2}}}, hears(api.Event{Kind: api.EvHalt, Price: 121}, everybody),
		hears(stopped(1, a, api.ByDay), own{7, 1}), hears(stopped(2, b, api.ByDay), own{8, 1}), hears(begins(api.Halted, 100), everybody))
	refuses(t, x, buys(7, 1, 100, 1), api.ErrRef)
	taken(t, x, buys(7, 2, 100, 1)) // that was not taken
	tells(t, x, 1, x.Send(stops(7, 3, api.Buy, 140, 0, 1)), told{Rejected(Buy(3, 0, 0), api.ErrPhase), 0, []own{{7, 3}}})
}

func TestP26_5Refresh(t *testing.T) {
	x := opened(t, 7, 8)
	q := peaked(sells(7, 1, 100, 10), 4)
	tells(t, x, 1, x.Send(q), hears(ack(1, q), own{7, 1}))
	b := buys(8, 5, 100, 9)
	tells(t, x, 1, x.Send(b), hears(ack(2, b), own{8, 5}),
		hears(Traded(2, 1, api.Buy, 100, 4), own{8, 5}, own{7, 1}), hears(Refreshed(1, 100, 4), own{7, 1}),
		hears(Traded(2, 1, api.Buy, 100, 4), own{8, 5}, own{7, 1}), hears(Refreshed(1, 100, 2), own{7, 1}),
		hears(Traded(2, 1, api.Buy, 100, 1), own{8, 5}, own{7, 1}))
	s, _ := x.Standing(7, 1)
	Same(t, "Standing", s, api.Standing{Limits: open, Sells: 1, Count: 1, Sold: 9})
	Same(t, "Bar", x.Bar(1), api.Bar{Open: 100, High: 100, Low: 100, Close: 100, Volume: 9, Trades: 3})
}

// What met one of its own member, or can't trade, is cancelled: its member is told.
func TestP26_5Cancelled(t *testing.T) {
	x := bare(t)
	s := usual()
	s.Config.Meet = api.MeetBoth
	x.List("ABC", s, 1, 10)
	x.Join(7, open, 0, 0)
	x.Join(8, open, 0, 0)
	turns(t, x, 1, api.PreOpen, api.Opened)
	taken(t, x, sells(7, 1, 100, 5))
	q := buys(7, 2, 100, 9)
	tells(t, x, 1, x.Send(q), hears(ack(2, q), own{7, 2}), hears(Ended(1, 5, api.ByMeet), own{7, 1}), hears(Ended(2, 9, api.ByMeet), own{7, 2}))
	q = order(8, 2, api.Sell, api.FOK, 100, 9)
	tells(t, x, 1, x.Send(q), hears(ack(3, q), own{8, 2}), hears(Ended(3, 9, api.ByFill), own{8, 2}))
	q = order(8, 3, api.Sell, api.Market, 0, 9)
	tells(t, x, 1, x.Send(q), hears(ack(4, q), own{8, 3}), hears(Ended(4, 9, api.ByRest), own{8, 3}))
	st, _ := x.Standing(8, 1)
	Same(t, "Standing", st, api.Standing{Limits: open})
}

// A member that trades with itself is told twice, and pays both fees.
func TestP26_5OneMember(t *testing.T) {
	x := opened(t, 7, 8)
	taken(t, x, sells(7, 1, 100, 5))
	q := buys(7, 2, 100, 5)
	tells(t, x, 1, x.Send(q), hears(ack(2, q), own{7, 2}), hears(Traded(2, 1, api.Buy, 100, 5), own{7, 2}, own{7, 1}))
	cash(t, x, 7, "999.85")
	Same(t, "Fees", x.Fees().Text(), "0.15")
	has(t, x, 7, 1, 0, "0.00", "0.00")
	s, _ := x.Standing(7, 1)
	Same(t, "Standing", s, api.Standing{Limits: open, Bought: 5, Sold: 5})
}

// The one that comes pays as the taker, whichever side it is on; of an auction the buyer does.
func TestP26_5Deals(t *testing.T) {
	x := opened(t, 7, 8)
	taken(t, x, sells(7, 1, 100, 5), buys(8, 1, 100, 5))
	cash(t, x, 7, "1004.95")
	cash(t, x, 8, "994.90")
	has(t, x, 8, 1, 5, "5.00", "0.00")
	taken(t, x, buys(8, 2, 110, 2), sells(7, 2, 110, 2))
	cash(t, x, 7, "1007.10") // 2.20, less 0.05 (of 0.044)
	cash(t, x, 8, "992.67")  // less 0.03 (of 0.022)
	has(t, x, 8, 1, 7, "7.20", "0.00")
	has(t, x, 7, 1, -7, "-7.20", "0.00")
	turns(t, x, 1, api.PreClose)
	taken(t, x, sells(8, 3, 120, 7), buys(7, 3, 120, 9))
	told, why := x.Turn(1, api.Closed)
	Same(t, "Turn", why, api.OK)
	tells(t, x, 1, told,
		hears(api.Event{Kind: api.EvPrice, Price: 120, Qty: 7, Reason: api.ByVolume}, everybody),
		hears(Traded(6, 5, api.Buy, 120, 7), own{7, 3}, own{8, 3}), hears(begins(api.Closed, 120), everybody))
	cash(t, x, 7, "998.53")  // 8.40 and 0.17
	cash(t, x, 8, "1000.98") // less 0.09
	has(t, x, 7, 1, 0, "0.00", "-1.20")
	has(t, x, 8, 1, 0, "0.00", "1.20")
	Same(t, "Fees", x.Fees().Text(), "0.49")
	// So it stands in clearing: the price at which each closed is its own.
	_, _, _, why = x.Settle()
	Same(t, "Settle", why, api.OK)
	m, _ := x.Margin(8)
	Same(t, "Margin", m.Margin.Text(), "1.20")
	m, _ = x.Margin(7)
	Same(t, "Margin", m.Margin.Text(), "-1.20")
}

// A deal that the accounts refuse is missing there alone.
func TestP26_5Refused(t *testing.T) {
	x := bare(t)
	s := usual()
	s.Reference = 1
	x.List("ABC", s, 1, 1)
	x.Join(7, open, 0, 0)
	x.Join(8, open, 0, 0)
	turns(t, x, 1, api.PreOpen, api.Opened)
	most := uint64(api.MaxQty)
	for n := range uint64(2) {
		taken(t, x, sells(7, n+1, 1, most), buys(8, n+1, 1, most))
	}
	has(t, x, 8, 1, api.MaxQty, "42949672.95", "0.00")
	Same(t, "Bar", x.Bar(1), api.Bar{Open: 1, High: 1, Low: 1, Close: 1, Volume: 2 * most, Trades: 2})
	st, _ := x.Standing(8, 1)
	Same(t, "Standing", st.Bought, 2*most)
	turns(t, x, 1, api.PreClose, api.Closed)
	calls, _, _, why := x.Settle()
	Same(t, "Settle", why, api.OK)
	Same(t, "calls", len(calls), 2)
	Same(t, "Need", calls[0].Need.Text(), "85899345.90") // clearing has both
}

// A position in clearing has its bound, too: what is beyond is missing there alone.
func TestP26_5RefusedByClearing(t *testing.T) {
	x, _ := exchange.New(api.Tariff{By: 1}, 0)
	s := usual()
	s.Reference = 1
	x.List("ABC", s, 1, 1)
	for _, m := range []uint32{7, 8, 9} {
		x.Join(m, open, 0, 0)
	}
	turns(t, x, 1, api.PreOpen, api.Opened)
	most := uint64(api.MaxQty)
	ref := uint64(0)
	trade := func(seller, buyer uint32, qty uint64) {
		t.Helper()
		ref++
		taken(t, x, sells(seller, ref, 1, qty), buys(buyer, ref, 1, qty))
	}
	for range 200 {
		trade(7, 8, most)
	}
	trade(8, 9, 1000)
	for range 56 {
		trade(7, 8, most)
	}
	trade(9, 8, 1256) // 256 times most is below 2^40 by 256: that is what 8 has now, in clearing
	has(t, x, 9, 1, 1000, "10.00", "0.00")
	has(t, x, 8, 1, api.MaxQty-1000, "42949662.95", "0.00")
	trade(9, 8, 100)
	has(t, x, 9, 1, 900, "9.00", "0.00")
	has(t, x, 8, 1, api.MaxQty-900, "42949663.95", "0.00")
	turns(t, x, 1, api.PreClose, api.Closed)
	calls, _, _, _ := x.Settle()
	Same(t, "calls", len(calls), 3)
	Same(t, "Need", calls[1].Need.Text(), "10995116277.76") // 2^40
	Same(t, "Need", calls[2].Need.Text(), "2.56")
}
