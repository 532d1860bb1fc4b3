package stops_test

import (
	"math"
	"testing"

	"bourse/api"
	. "bourse/sample"
	"bourse/stops"
)

// market is the order of a Market, without an ID.
func market(side int, qty uint64) api.Command { return Order(0, side, api.Market, 0, qty) }

// numberedAs is a command with an ID.
func numberedAs(id uint64, c api.Command) api.Command {
	c.ID = id
	return c
}

func TestP13_1New(t *testing.T) {
	each(t, func(t *testing.T, kind int) {
		for _, most := range []int{0, 1, 4095, 4096} {
			b := over(t, engineOf(t, kind, api.Config{Capacity: 2}), most)
			keeps(t, b, api.Stops{Most: most})
			Keeps(t, b, api.Book{Config: api.Config{Capacity: 2}})
		}
		for _, most := range []int{math.MinInt, math.MinInt32, -1, 4097, math.MaxInt32, math.MaxInt} {
			b, why := stops.New(engineOf(t, kind, api.Config{Capacity: 2}), most)
			if b != nil || why != api.ErrArg {
				t.Errorf("New(.., %d): %v, %v", most, b, why)
			}
		}
	})
	for _, most := range []int{-1, 0, 7, 4096, 4097} {
		if b, why := stops.New(nil, most); b != nil || why != api.ErrArg {
			t.Errorf("New(nil, %d): %v, %v", most, b, why)
		}
	}
}

func TestP13_1OverAnEngineThatHasOrders(t *testing.T) {
	each(t, func(t *testing.T, kind int) {
		e := engineOf(t, kind, api.Config{Capacity: 4})
		for _, c := range []api.Command{Sell(3, 10, 5), Buy(4, 10, 2)} {
			e.Do(c)
		}
		x := e.Book()
		b := over(t, e, 4)
		Keeps(t, b, x)
		// The trade ahead of New is no last price, and the numbers begin anew.
		keeps(t, b, api.Stops{Most: 4})
		c := Buy(5, 10, 1)
		SameList(t, "Do", b.Do(c), Numbered(0, Acked(c), Traded(5, 3, api.Buy, 10, 1)))
		Same(t, "the engine's Seq", b.Book().Seq, x.Seq+2)
	})
}

func TestP13_2Examples(t *testing.T) {
	each(t, func(t *testing.T, kind int) {
		b := bookOf(t, kind, Sell(1, 10, 5), Sell(2, 12, 5))
		s := Stop(1, 10, market(api.Buy, 3))
		SameList(t, "Place", b.Place(s), Numbered(2, Stopped(s, 0)))
		c := Buy(3, 10, 1)
		SameList(t, "Do", b.Do(c), Numbered(3, Acked(c), Traded(3, 1, api.Buy, 10, 1), Triggered(1, 4), Acked(numberedAs(4, market(api.Buy, 3))), Traded(4, 1, api.Buy, 10, 3)))
		// The last price is 10: it is met at once.
		s = Stop(2, 10, Sell(0, 9, 1))
		SameList(t, "Place", b.Place(s), Numbered(8, Stopped(s, 0), Triggered(2, 5), Acked(Sell(5, 9, 1))))
		keeps(t, b, api.Stops{Most: 4, High: 2, Seq: 11, Last: 10, HasLast: true})
		tells(t, b, b.Place(s), api.Event{Kind: api.EvReject, ID: 2, Code: api.ErrNumber})
		tells(t, b, b.Withdraw(9), api.Event{Kind: api.EvReject, Target: 9, Code: api.ErrStop})
		s.Trigger = -1
		tells(t, b, b.Place(s), api.Event{Kind: api.EvReject, ID: 2, Code: api.ErrTrigger})
		s.Qty = 0
		tells(t, b, b.Place(s), api.Event{Kind: api.EvReject, ID: 2, Code: api.ErrQty})
	})
}

func TestP13_2WhatIsMet(t *testing.T) {
	each(t, func(t *testing.T, kind int) {
		for _, at := range []int{0, 1, 10, api.Ticks - 1} {
			for _, trigger := range []int{0, 1, 9, 10, 11, api.Ticks - 2, api.Ticks - 1} {
				for side, met := range map[int]bool{api.Buy: at >= trigger, api.Sell: at <= trigger} {
					b := bookOf(t, kind, Sell(1, at, 1))
					s := Stop(7, trigger, Order(0, side, api.IOC, 5, 2))
					// Without a last price none is met.
					places(t, b, s)
					c := Buy(2, at, 1)
					want := []api.Event{Acked(c), Traded(2, 1, api.Buy, at, 1)}
					if met {
						want = append(want, Triggered(7, 3), Acked(Order(3, side, api.IOC, 5, 2)), Ended(3, 2, api.ByRest))
					}
					tells(t, b, b.Do(c), want...)
					Same(t, "whether it is gone", len(b.Pending()) == 0, met)
				}
			}
		}
	})
}

func TestP13_2TheLowestNumberFirst(t *testing.T) {
	each(t, func(t *testing.T, kind int) {
		// The one with the lowest number goes first, whatever its trigger and side.
		b := bookOf(t, kind, Sell(1, 10, 9))
		ioc := Order(0, api.Sell, api.IOC, 50, 1)
		places(t, b, Stop(2, 10, ioc), Stop(5, 1, market(api.Buy, 1)), Stop(7, 12, ioc), Stop(9, 10, market(api.Buy, 2)))
		c := Buy(3, 10, 1)
		tells(t, b, b.Do(c), Acked(c), Traded(3, 1, api.Buy, 10, 1),
			Triggered(2, 4), Acked(numberedAs(4, ioc)), Ended(4, 1, api.ByRest),
			Triggered(5, 5), Acked(numberedAs(5, market(api.Buy, 1))), Traded(5, 1, api.Buy, 10, 1),
			Triggered(7, 6), Acked(numberedAs(6, ioc)), Ended(6, 1, api.ByRest),
			Triggered(9, 7), Acked(numberedAs(7, market(api.Buy, 2))), Traded(7, 1, api.Buy, 10, 2))
	})
}

func TestP13_2TheLastPriceMovesOnTheWay(t *testing.T) {
	each(t, func(t *testing.T, kind int) {
		b := bookOf(t, kind, Sell(1, 10, 1), Sell(2, 12, 1), Sell(3, 14, 1), Buy(4, 8, 1))
		// At 10 the numbers 2 and 3 are met; 2 moves the price to 12, where 3 is met no more, but 1 is; which moves it to 14.
		one, two, three, four := Stop(1, 12, market(api.Buy, 1)), Stop(2, 10, market(api.Buy, 1)), Stop(3, 11, market(api.Sell, 1)), Stop(4, 15, market(api.Buy, 1))
		places(t, b, one, two, three, four)
		c := Buy(5, 10, 1)
		tells(t, b, b.Do(c), Acked(c), Traded(5, 1, api.Buy, 10, 1),
			Triggered(2, 6), Acked(numberedAs(6, market(api.Buy, 1))), Traded(6, 2, api.Buy, 12, 1),
			Triggered(1, 7), Acked(numberedAs(7, market(api.Buy, 1))), Traded(7, 3, api.Buy, 14, 1))
		keeps(t, b, api.Stops{Most: 4, List: []api.Stop{three, four}, High: 4, Seq: b.State().Seq, Last: 14, HasLast: true})
		// A price that falls lets a sell go.
		c = Sell(8, 8, 1)
		tells(t, b, b.Do(c), Acked(c), Traded(8, 4, api.Sell, 8, 1), Triggered(3, 9), Acked(numberedAs(9, market(api.Sell, 1))), Ended(9, 1, api.ByRest))
		SameList(t, "Pending", b.Pending(), []api.Stop{four})
	})
}

func TestP13_2ItsOrderComesWhole(t *testing.T) {
	each(t, func(t *testing.T, kind int) {
		for _, o := range []api.Command{
			By(Peaked(Sell(0, 20, 9), 4), 7), By(Order(0, api.Sell, api.PostOnly, 20, 3), math.MaxUint32), Peaked(Order(0, api.Buy, api.PostOnly, 5, math.MaxUint32), 1<<24),
			By(Order(0, api.Buy, api.FOK, 30, 2), 8), Order(0, api.Buy, api.IOC, 12, 2), market(api.Sell, 1), Buy(0, 0, 1), Sell(0, api.Ticks-1, 1),
		} {
			first := []api.Command{Sell(1, 10, 1), Sell(2, 12, 1), Buy(3, 10, 1)}
			b := bookOf(t, kind, first...)
			trigger := map[int]int{api.Buy: 0, api.Sell: api.Ticks - 1}[o.Side]
			s := Stop(math.MaxUint64, trigger, o)
			// What it tells is what an engine tells of the order.
			e := engineOf(t, kind, api.Config{Capacity: 9})
			for _, c := range first {
				e.Do(c)
			}
			tells(t, b, b.Place(s), append([]api.Event{Stopped(s, 0), Triggered(math.MaxUint64, 4)}, e.Do(numberedAs(4, o))...)...)
			Alike(t, b, e)
		}
	})
}

func TestP13_2RefusedWhereItComes(t *testing.T) {
	each(t, func(t *testing.T, kind int) {
		// No room for 1; 2 would trade; 3 comes, under the number that neither of them took.
		b := over(t, engineOf(t, kind, api.Config{Capacity: 2}), 4)
		for _, c := range []api.Command{Sell(1, 10, 2), Sell(20, 11, 9)} {
			b.Do(c)
		}
		one, two, three, four := Stop(1, 10, Buy(0, 5, 1)), Stop(2, 11, Order(0, api.Buy, api.PostOnly, 11, 1)), Stop(3, 10, market(api.Buy, 1)), Stop(4, 11, market(api.Buy, 1))
		places(t, b, one, two, three, four)
		c := Order(30, api.Buy, api.IOC, 10, 1)
		tells(t, b, b.Do(c), Acked(c), Traded(30, 1, api.Buy, 10, 1),
			Triggered(1, 31), Rejected(Buy(31, 5, 1), api.ErrFull),
			Triggered(3, 31), Acked(numberedAs(31, market(api.Buy, 1))), Traded(31, 1, api.Buy, 10, 1))
		Same(t, "High", b.Book().High, 31)
		c = Order(40, api.Buy, api.IOC, 11, 1)
		tells(t, b, b.Do(c), Acked(c), Traded(40, 20, api.Buy, 11, 1),
			Triggered(2, 41), Rejected(Buy(41, 11, 1), api.ErrCross),
			Triggered(4, 41), Acked(numberedAs(41, market(api.Buy, 1))), Traded(41, 20, api.Buy, 11, 1))
		keeps(t, b, api.Stops{Most: 4, High: 4, Seq: b.State().Seq, Last: 11, HasLast: true})
	})
}

func TestP13_2NoIDAboveTheGreatest(t *testing.T) {
	each(t, func(t *testing.T, kind int) {
		b := bookOf(t, kind, Sell(1, 10, 9))
		s := market(api.Buy, 1)
		places(t, b, Stop(1, 10, s), Stop(2, 10, s), Stop(3, 10, s))
		c := Buy(math.MaxUint64-1, 10, 1)
		tells(t, b, b.Do(c), Acked(c), Traded(c.ID, 1, api.Buy, 10, 1),
			Triggered(1, math.MaxUint64), Acked(numberedAs(math.MaxUint64, s)), Traded(math.MaxUint64, 1, api.Buy, 10, 1),
			Triggered(2, 0), Rejected(s, api.ErrID),
			Triggered(3, 0), Rejected(s, api.ErrID))
		tells(t, b, b.Place(Stop(4, 10, s)), Stopped(Stop(4, 10, s), 0), Triggered(4, 0), Rejected(s, api.ErrID))
	})
}

func TestP13_3TheLastTradeOfACommand(t *testing.T) {
	each(t, func(t *testing.T, kind int) {
		// A command goes through 10 and 11 to 12: a sell that waits for 11 is met by none but the last.
		b := bookOf(t, kind, Sell(1, 10, 1), Sell(2, 11, 1), Sell(3, 12, 2))
		sells, buys := Stop(1, 11, market(api.Sell, 1)), Stop(2, 12, Buy(0, 1, 1))
		places(t, b, sells, buys)
		c := Buy(4, 12, 3)
		tells(t, b, b.Do(c), Acked(c), Traded(4, 1, api.Buy, 10, 1), Traded(4, 2, api.Buy, 11, 1), Traded(4, 3, api.Buy, 12, 1), Triggered(2, 5), Acked(Buy(5, 1, 1)))
		SameList(t, "Pending", b.Pending(), []api.Stop{sells})
	})
}

func TestP13_3WithoutATrade(t *testing.T) {
	each(t, func(t *testing.T, kind int) {
		b := bookOf(t, kind, Sell(1, 10, 5), Buy(2, 10, 1))
		waits := Stop(1, 11, market(api.Buy, 1))
		places(t, b, waits)
		for _, c := range []api.Command{Buy(3, 9, 1), Cancel(99), Cancel(3), Sell(1, 5, 1), {}, Order(4, api.Buy, api.FOK, 10, 9), Replace(1, 7, 20, 3)} {
			for _, e := range b.Do(c) {
				if e.Kind == api.EvTrigger || e.Kind == api.EvTrade {
					t.Errorf("%v is told of %v", e, c)
				}
			}
			SameList(t, "Pending", b.Pending(), []api.Stop{waits})
			if last, there := b.Last(); last != 10 || !there {
				t.Errorf("Last: %d, %v", last, there)
			}
		}
		// A Replace trades as well, and so do orders of one member.
		b = bookOf(t, kind, By(Sell(1, 10, 5), 7), By(Buy(2, 9, 1), 7))
		places(t, b, waits, Stop(2, 10, market(api.Buy, 1)))
		c := Replace(2, 3, 10, 1)
		tells(t, b, b.Do(c), Ended(2, 1, api.ByReplace), Acked(By(Buy(3, 10, 1), 7)), Traded(3, 1, api.Buy, 10, 1), Triggered(2, 4), Acked(numberedAs(4, market(api.Buy, 1))), Traded(4, 1, api.Buy, 10, 1))
	})
}

func TestP13_4Taken(t *testing.T) {
	each(t, func(t *testing.T, kind int) {
		b := bookOf(t, kind)
		s := Stop(3, 0, By(Peaked(Sell(0, api.Ticks-1, math.MaxUint32), 1<<24), math.MaxUint32))
		last := Stop(math.MaxUint64, api.Ticks-1, By(market(api.Buy, 1), 5))
		SameList(t, "Place", b.Place(s), []api.Event{{Seq: 1, Kind: api.EvStop, ID: 3, Target: 0, Member: math.MaxUint32, Side: api.Sell, Type: api.Limit, Price: api.Ticks - 1, Qty: math.MaxUint32, Peak: 1 << 24}})
		SameList(t, "Place", b.Place(last), []api.Event{{Seq: 2, Kind: api.EvStop, ID: math.MaxUint64, Target: api.Ticks - 1, Member: 5, Side: api.Buy, Type: api.Market, Qty: 1}})
		keeps(t, b, api.Stops{Most: 4, List: []api.Stop{s, last}, High: math.MaxUint64, Seq: 2})
		Keeps(t, b, api.Book{Config: api.Config{Capacity: 9}})
		// No number is above this one.
		tells(t, b, b.Place(last), api.Event{Kind: api.EvReject, ID: math.MaxUint64, Code: api.ErrNumber})
		last.Number = 0
		tells(t, b, b.Place(last), api.Event{Kind: api.EvReject, ID: 0, Code: api.ErrNumber})
	})
}

func TestP13_4Refused(t *testing.T) {
	each(t, func(t *testing.T, kind int) {
		b := bookOf(t, kind)
		s := Stop(9, 10, Buy(0, 5, 300))
		for _, number := range []uint64{6, 7, 8, 9} {
			s.Number = number
			places(t, b, s)
		}
		want := b.State()
		// Each is wrong in all that was wrong ahead of it: of several errors the first is told.
		turns := []struct {
			turn func(s *api.Stop)
			why  api.Errno
		}{
			{func(s *api.Stop) { s.Number = 10 }, api.ErrWaiting},
			{func(s *api.Stop) { s.Number = 9 }, api.ErrNumber},
			{func(s *api.Stop) { s.Number = 0 }, api.ErrNumber},
			{func(s *api.Stop) { s.Trigger = api.Ticks }, api.ErrTrigger},
			{func(s *api.Stop) { s.Trigger = -1 }, api.ErrTrigger},
			{func(s *api.Stop) { s.Trigger = math.MinInt }, api.ErrTrigger},
			{func(s *api.Stop) { s.Peak = 1 }, api.ErrPeak},
			{func(s *api.Stop) { s.Peak = 301 }, api.ErrPeak},
			{func(s *api.Stop) { s.Qty = math.MaxUint32 + 1 }, api.ErrQty},
			{func(s *api.Stop) { s.Qty = 0 }, api.ErrQty},
			{func(s *api.Stop) { s.Price = api.Ticks }, api.ErrPrice},
			{func(s *api.Stop) { s.Type, s.Price = api.Market, 1 }, api.ErrPrice},
			{func(s *api.Stop) { s.Type = 6 }, api.ErrType},
			{func(s *api.Stop) { s.Type = 0 }, api.ErrType},
			{func(s *api.Stop) { s.Side = 3 }, api.ErrSide},
			{func(s *api.Stop) { s.Side = math.MinInt }, api.ErrSide},
		}
		for _, x := range turns {
			x.turn(&s)
			tells(t, b, b.Place(s), api.Event{Kind: api.EvReject, ID: s.Number, Code: x.why})
			want.Seq++
			keeps(t, b, want)
		}
		Keeps(t, b, api.Book{Config: api.Config{Capacity: 9}})
	})
}

func TestP13_4NoRoom(t *testing.T) {
	each(t, func(t *testing.T, kind int) {
		// One that would be let go at once needs room, too.
		b := over(t, engineOf(t, kind, api.Config{Capacity: 4}), 0)
		b.Do(Sell(1, 10, 5))
		b.Do(Buy(2, 10, 1))
		tells(t, b, b.Place(Stop(1, 10, market(api.Buy, 1))), api.Event{Kind: api.EvReject, ID: 1, Code: api.ErrWaiting})
		Same(t, "High", b.State().High, 0)
		b = over(t, engineOf(t, kind, api.Config{Capacity: 4}), api.MaxStops)
		for n := range uint64(api.MaxStops) {
			places(t, b, Stop(n+1, 5, market(api.Buy, 1)))
		}
		s := Stop(api.MaxStops+1, 5, market(api.Buy, 1))
		tells(t, b, b.Place(s), api.Event{Kind: api.EvReject, ID: s.Number, Code: api.ErrWaiting})
		b.Withdraw(77)
		places(t, b, s)
	})
}

func TestP13_4ANumberIsTakenOnce(t *testing.T) {
	each(t, func(t *testing.T, kind int) {
		b := bookOf(t, kind, Sell(1, 10, 5), Buy(2, 10, 1))
		s := Stop(5, 11, market(api.Buy, 1))
		places(t, b, s)
		b.Withdraw(5)
		tells(t, b, b.Place(s), api.Event{Kind: api.EvReject, ID: 5, Code: api.ErrNumber})
		// What was refused took no number.
		s.Number, s.Qty = 8, 0
		tells(t, b, b.Place(s), api.Event{Kind: api.EvReject, ID: 8, Code: api.ErrQty})
		s.Qty, s.Trigger = 1, 10
		tells(t, b, b.Place(s), Stopped(s, 0), Triggered(8, 3), Acked(numberedAs(3, market(api.Buy, 1))), Traded(3, 1, api.Buy, 10, 1))
		tells(t, b, b.Place(s), api.Event{Kind: api.EvReject, ID: 8, Code: api.ErrNumber})
	})
}

func TestP13_5Withdraw(t *testing.T) {
	each(t, func(t *testing.T, kind int) {
		b := bookOf(t, kind, Sell(1, 10, 5))
		one, two, three := Stop(2, 10, By(Peaked(Buy(0, 12, 9), 3), 7)), Stop(3, 20, market(api.Buy, 1)), Stop(7, 2, Order(0, api.Sell, api.FOK, 3, 4))
		places(t, b, one, two, three)
		x := b.Book()
		for _, n := range []uint64{0, 1, 4, 6, 8, math.MaxUint64} {
			tells(t, b, b.Withdraw(n), api.Event{Kind: api.EvReject, Target: n, Code: api.ErrStop})
		}
		tells(t, b, b.Withdraw(2), api.Event{Kind: api.EvStop, ID: 2, Target: 10, Member: 7, Side: api.Buy, Type: api.Limit, Price: 12, Qty: 9, Peak: 3, Reason: api.ByOwner})
		tells(t, b, b.Withdraw(2), api.Event{Kind: api.EvReject, Target: 2, Code: api.ErrStop})
		SameList(t, "Pending", b.Pending(), []api.Stop{two, three})
		tells(t, b, b.Withdraw(7), Stopped(three, api.ByOwner))
		keeps(t, b, api.Stops{Most: 4, List: []api.Stop{two}, High: 7, Seq: b.State().Seq})
		Keeps(t, b, x)
		// It is not let go any more.
		c := Buy(2, 10, 1)
		tells(t, b, b.Do(c), Acked(c), Traded(2, 1, api.Buy, 10, 1))
		tells(t, b, b.Withdraw(3), Stopped(two, api.ByOwner))
		SameList(t, "Pending", b.Pending(), nil)
	})
}
