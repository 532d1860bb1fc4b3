package phases_test

import (
	"math"
	"slices"
	"testing"

	"bourse/api"
	"bourse/phases"
	. "bourse/sample"
)

func TestP16_4WhichTurnsThereAre(t *testing.T) {
	each(t, func(t *testing.T, kind int) {
		there := map[[2]int]bool{{0, 1}: true, {1, 2}: true, {3, 2}: true, {2, 3}: true, {2, 4}: true, {3, 4}: true, {4, 0}: true}
		for from := range 5 {
			for _, to := range []int{0, 1, 2, 3, 4, -1, 5, math.MinInt, math.MaxInt, 1 << 32} {
				f := floorOf(t, kind, from)
				if there[[2]int{from, to}] {
					turns(t, f, to, 100)
					continue
				}
				want := asked(f)
				told, why := f.Turn(to)
				Same(t, "Turn", why, api.ErrPhase)
				SameList(t, "Turn", told, nil)
				looked(t, f, want)
			}
		}
	})
}

func TestP16_4ExampleOfTheOpening(t *testing.T) {
	each(t, func(t *testing.T, kind int) {
		f := floorOf(t, kind, api.PreOpen, Buy(1, 101, 5), Sell(2, 99, 3), market(3, api.Sell, 1))
		turns(t, f, api.Opened, 101, priced(101, 4, api.ByPressure), Traded(1, 3, api.Buy, 101, 1), Traded(1, 2, api.Buy, 101, 3))
		want := api.Book{Config: api.Config{Capacity: 9}, Buys: []api.Resting{{ID: 1, Type: api.Limit, Price: 101, Visible: 1}}, High: 3, Seq: 3 + 1 + 4}
		looked(t, f, seen{phase: api.Opened, reference: 101, book: want, orders: 1})
	})
}

func TestP16_4TheRuleThatDecided(t *testing.T) {
	each(t, func(t *testing.T, kind int) {
		for _, x := range []struct {
			l     []api.Command
			price int
			qty   uint64
			rule  int
		}{
			{[]api.Command{Buy(1, 102, 10), Buy(2, 101, 10), Sell(3, 99, 5), Sell(4, 101, 10)}, 101, 15, api.ByVolume},
			{[]api.Command{Buy(1, 105, 10), Buy(2, 104, 2), Sell(3, 95, 10)}, 105, 10, api.BySurplus},
			{[]api.Command{Buy(1, 105, 12), Sell(2, 95, 10)}, 105, 10, api.ByPressure},
			{[]api.Command{Buy(1, 105, 10), Sell(2, 95, 10)}, 100, 10, api.ByReference},
		} {
			for _, way := range [][2]int{{api.PreOpen, api.Opened}, {api.Halted, api.Opened}, {api.PreClose, api.Closed}} {
				f := floorOf(t, kind, way[0], x.l...)
				told, why := f.Turn(way[1])
				Same(t, "Turn", why, api.OK)
				SameList(t, "EvPrice", told[:1], Numbered(told[0].Seq-1, priced(x.price, x.qty, x.rule)))
				SameList(t, "EvPhase", told[len(told)-1:], Numbered(f.Seq()-1, begins(way[1], x.price)))
				Same(t, "Reference", f.Reference(), x.price)
			}
		}
	})
}

func TestP16_4MarketsThatAreLeft(t *testing.T) {
	each(t, func(t *testing.T, kind int) {
		for _, way := range [][2]int{{api.PreOpen, api.Opened}, {api.Halted, api.Opened}, {api.PreClose, api.Closed}} {
			// Without a price they end, too; the buys' first, whenever they came.
			f := floorOf(t, kind, way[0], market(1, api.Sell, 4), market(2, api.Sell, 5), Sell(3, 100, 1))
			turns(t, f, way[1], 100, Ended(1, 4, api.ByRest), Ended(2, 5, api.ByRest))
			Same(t, "Orders", f.Orders(), 1)
			f = floorOf(t, kind, way[0], market(1, api.Sell, 4), market(2, api.Buy, 1), market(3, api.Sell, 7), Buy(4, 99, 1))
			turns(t, f, way[1], 99, priced(99, 2, api.ByVolume), Traded(2, 1, api.Buy, 99, 1), Traded(4, 1, api.Buy, 99, 1), Ended(1, 2, api.ByRest), Ended(3, 7, api.ByRest))
			Same(t, "Orders", f.Orders(), 0)
			f = floorOf(t, kind, way[0], market(1, api.Buy, 4), market(3, api.Buy, 2), market(4, api.Sell, 1))
			turns(t, f, way[1], 100, priced(100, 1, api.ByVolume), Traded(1, 4, api.Buy, 100, 1), Ended(1, 3, api.ByRest), Ended(3, 2, api.ByRest))
			Same(t, "Quote", quote(f), quoted{})
		}
	})
}

func TestP16_4FromABookToACallAndBack(t *testing.T) {
	each(t, func(t *testing.T, kind int) {
		l := []api.Command{
			By(Buy(1, 98, 5), 7), Peaked(Buy(2, 98, 9), 4), postOnly(3, api.Buy, 97, 2), Buy(4, 98, 1),
			Sell(5, 103, 5), By(Peaked(postOnly(6, api.Sell, 102, 8), 5), 8), Sell(7, 102, 1),
		}
		f := floorOf(t, kind, api.Opened, l...)
		// 1 and 4 are taken whole, and of 2 what it shows and one more, so that it shows 3 of what is left.
		takes(t, f, Order(8, api.Sell, api.IOC, 98, 5), Order(9, api.Sell, api.IOC, 98, 4), Order(10, api.Sell, api.IOC, 98, 1), Order(11, api.Sell, api.IOC, 98, 1))
		buys := []api.Resting{{ID: 2, Type: api.Limit, Price: 98, Visible: 3, Hidden: 1, Peak: 4}, {ID: 3, Type: api.PostOnly, Price: 97, Visible: 2}}
		sells := []api.Resting{{ID: 6, Member: 8, Type: api.PostOnly, Price: 102, Visible: 5, Hidden: 3, Peak: 5}, {ID: 7, Type: api.Limit, Price: 102, Visible: 1}, {ID: 5, Type: api.Limit, Price: 103, Visible: 5}}
		x := f.Book()
		SameList(t, "Buys", x.Buys, buys)
		SameList(t, "Sells", x.Sells, sells)
		turns(t, f, api.Halted, 100)
		y := f.Book()
		want := seen{phase: api.Halted, reference: 100, orders: 5, book: api.Book{Config: y.Config, High: 11, Seq: x.Seq + 1}}
		want.interests = [2][]api.Interest{
			{Interest(Buy(2, 98, 4)), Interest(Buy(3, 97, 2))},
			{Interest(By(Sell(6, 102, 8), 8)), Interest(Sell(7, 102, 1)), Interest(Sell(5, 103, 5))},
		}
		looked(t, f, want)
		turns(t, f, api.PreClose, 100)
		want.phase = api.PreClose
		want.book.Seq++
		looked(t, f, want)
		turns(t, f, api.Closed, 100)
		// An order shows its peak again, as much as is left.
		buys[0].Visible, buys[0].Hidden = 4, 0
		want = seen{phase: api.Closed, reference: 100, orders: 5, book: api.Book{Config: y.Config, Buys: buys, Sells: sells, High: 11, Seq: x.Seq + 3}}
		looked(t, f, want)
		turns(t, f, api.PreOpen, 100)
		turns(t, f, api.Opened, 100)
		want.phase = api.Opened
		want.book.Seq += 2
		looked(t, f, want)
	})
}

func TestP16_4AnIcebergInAnAuction(t *testing.T) {
	each(t, func(t *testing.T, kind int) {
		// It trades with all that it has, without a refresh, and shows what is left.
		for _, x := range []struct{ qty, visible, hidden uint64 }{{3, 4, 3}, {6, 4, 0}, {7, 3, 0}} {
			f := floorOf(t, kind, api.PreOpen, By(Peaked(Sell(1, 100, 10), 4), 7), Buy(2, 100, x.qty), Sell(3, 100, 1))
			turns(t, f, api.Opened, 100, priced(100, x.qty, api.ByVolume), Traded(2, 1, api.Buy, 100, x.qty))
			SameList(t, "Sells", f.Book().Sells, []api.Resting{
				{ID: 1, Member: 7, Type: api.Limit, Price: 100, Visible: x.visible, Hidden: x.hidden, Peak: 4}, {ID: 3, Type: api.Limit, Price: 100, Visible: 1}})
		}
	})
}

func TestP16_4TheReference(t *testing.T) {
	each(t, func(t *testing.T, kind int) {
		// It goes with an auction's price, and with nothing else; the bands are about it.
		f := floorOf(t, kind, api.PreOpen, Buy(1, 108, 1), Sell(2, 108, 1))
		turns(t, f, api.Opened, 108, priced(108, 1, api.ByVolume), Traded(1, 2, api.Buy, 108, 1))
		refuses(t, f, Buy(3, 119, 1), api.ErrBand)
		refuses(t, f, Buy(3, 97, 1), api.ErrBand)
		takes(t, f, Sell(3, 111, 2), Buy(4, 111, 1))
		Same(t, "Reference", f.Reference(), 108)
		// The last trade, 111, is no matter behind a call: 112 is farther than 3 from 108.
		turns(t, f, api.Halted, 108)
		refuses(t, f, Buy(5, 119, 1), api.ErrBand)
		takes(t, f, Sell(5, 112, 1))
		turns(t, f, api.Opened, 108)
		c := market(6, api.Buy, 2)
		does(t, f, c, Rejected(c, api.ErrJump), halted(112), begins(api.Halted, 108))
		turns(t, f, api.PreClose, 108)
		takes(t, f, Buy(6, 112, 3))
		turns(t, f, api.Closed, 112, priced(112, 2, api.ByVolume), Traded(6, 3, api.Buy, 112, 1), Traded(6, 5, api.Buy, 112, 1))
		// The next day begins with it, and without a price it stays.
		turns(t, f, api.PreOpen, 112)
		refuses(t, f, Sell(7, 101, 1), api.ErrBand)
		takes(t, f, Replace(6, 7, 122, 1))
		turns(t, f, api.Opened, 112)
		refuses(t, f, Sell(8, 123, 1), api.ErrBand)
	})
}

func TestP16_4TradingBeginsAnew(t *testing.T) {
	each(t, func(t *testing.T, kind int) {
		f := floorOf(t, kind, api.Opened, Sell(1, 102, 2), Buy(2, 102, 1))
		turns(t, f, api.Halted, 100)
		turns(t, f, api.Opened, 100)
		// There is no last price: what one of yesterday's would meet waits.
		s := Stop(1, 102, market(0, api.Buy, 1))
		tells(t, f, f.Stop(s), Stopped(s, 0))
		c := market(3, api.Buy, 1)
		does(t, f, c, Acked(c), Traded(3, 1, api.Buy, 102, 1), Triggered(1, 4), Acked(market(4, api.Buy, 1)), Ended(4, 1, api.ByRest))
	})
}

func TestP16_4StopOrdersEnd(t *testing.T) {
	each(t, func(t *testing.T, kind int) {
		for _, to := range []int{api.Halted, api.PreClose} {
			s := usual(kind)
			s.Stops = 9
			f := made(t, s)
			comes(t, f, api.Opened)
			l := []api.Stop{Stop(2, 90, By(market(0, api.Sell, 1), 7)), Stop(3, 109, Peaked(Buy(0, 105, 9), 2)), Stop(9, 0, postOnly(0, api.Sell, 1, 1))}
			var ends []api.Event
			for _, w := range l {
				tells(t, f, f.Stop(w), Stopped(w, 0))
				ends = append(ends, Stopped(w, api.ByDay))
			}
			turns(t, f, to, 100, ends...)
			SameList(t, "Pending", f.Pending(), nil)
		}
	})
}

func TestP16_4ExamplesOfTheDaysEnd(t *testing.T) {
	each(t, func(t *testing.T, kind int) {
		f := floorOf(t, kind, api.Opened, Buy(1, 95, 1), Sell(2, 105, 2))
		takesForTheDay(t, f, Buy(3, 95, 3), Sell(4, 106, 4), Peaked(Sell(5, 104, 9), 2), postOnly(6, api.Buy, 97, 6))
		turns(t, f, api.PreClose, 100)
		takesForTheDay(t, f, market(7, api.Sell, 7))
		// What the auction trades does not end with the day: 6 and 7, which are for it, are gone ahead of that.
		turns(t, f, api.Closed, 95, priced(95, 7, api.ByVolume), Traded(6, 7, api.Buy, 95, 6), Traded(1, 7, api.Buy, 95, 1),
			Ended(3, 3, api.ByDay), Ended(5, 9, api.ByDay), Ended(4, 4, api.ByDay))
		x := f.Book()
		SameList(t, "Buys", x.Buys, nil)
		SameList(t, "Sells", x.Sells, []api.Resting{{ID: 2, Type: api.Limit, Price: 105, Visible: 2}})
		SameList(t, "IsDay", asked(f).days, nil)
		// One that is not for the day is there on the next one.
		turns(t, f, api.PreOpen, 95)
		SameList(t, "Interests", f.Interests(api.Sell), []api.Interest{Interest(Sell(2, 105, 2))})
		turns(t, f, api.Opened, 95)
		does(t, f, Cancel(2), Ended(2, 2, api.ByOwner))
	})
}

func TestP16_5Swap(t *testing.T) {
	each(t, func(t *testing.T, kind int) {
		for phase := range 5 {
			f := floorOf(t, kind, phase)
			if phase != api.Closed {
				takes(t, f, Buy(1, 95, 1), Peaked(Sell(2, 105, 9), 2))
			}
			if phase == api.Opened {
				f.Stop(Stop(1, 105, market(0, api.Buy, 1)))
			}
			want := asked(f)
			for _, wrong := range []int{0, -1, 4, 9, math.MinInt, math.MaxInt} {
				Same(t, "Swap", f.Swap(wrong), api.ErrEngine)
				looked(t, f, want)
			}
			for _, engine := range []int{api.List, api.Tree, api.Ladder, api.Ladder} {
				Same(t, "Swap", f.Swap(engine), api.OK)
				looked(t, f, want)
			}
		}
	})
}

func TestP16_5WhatStaysBesideTheBook(t *testing.T) {
	each(t, func(t *testing.T, kind int) {
		for _, to := range []int{api.Tree, api.Ladder, api.List} {
			f := floorOf(t, kind, api.Opened, Sell(1, 103, 2), Sell(2, 106, 1), Buy(3, 103, 1))
			s := Stop(4, 100, market(0, api.Sell, 1))
			tells(t, f, f.Stop(s), Stopped(s, 0))
			Same(t, "Swap", f.Swap(to), api.OK)
			// The last price is 103: for the Guard, which lets 106 be, and for stop orders.
			tells(t, f, f.Stop(Stop(4, 100, market(0, api.Sell, 1))), api.Event{Kind: api.EvReject, ID: 4, Code: api.ErrNumber})
			d := Stop(5, 103, market(0, api.Buy, 2))
			tells(t, f, f.Stop(d), Stopped(d, 0), Triggered(5, 4), Acked(market(4, api.Buy, 2)), Traded(4, 1, api.Buy, 103, 1), Traded(4, 2, api.Buy, 106, 1))
			SameList(t, "Pending", f.Pending(), []api.Stop{s})
			turns(t, f, api.PreClose, 100, Stopped(s, api.ByDay))
		}
	})
}

func TestP16_6InACall(t *testing.T) {
	each(t, func(t *testing.T, kind int) {
		for _, phase := range calls() {
			f := floorOf(t, kind, phase, Buy(4, 101, 5), Sell(7, 99, 3))
			seq := uint64(len(way(phase)) + 2)
			looked(t, f, seen{
				phase: phase, reference: 100, orders: 2,
				book:      api.Book{Config: api.Config{Capacity: 9}, High: 7, Seq: seq},
				interests: [2][]api.Interest{{Interest(Buy(4, 101, 5))}, {Interest(Sell(7, 99, 3))}},
				quoted:    quoted{api.Quote{Price: 101, Volume: 3, Surplus: 2, Side: api.Buy, Rule: api.ByPressure}, true},
			})
		}
	})
}

func TestP16_6TheQuoteIsWhatTheTurnComesTo(t *testing.T) {
	runs(t, 7000, func(t *testing.T, mix *Mixer, w *trio, s step) {
		f := w.floors[0]
		q, there := f.Quote()
		if !there || mix.Below(4) > 0 {
			return
		}
		to := api.Opened
		if f.Phase() == api.PreClose {
			to = api.Closed
		}
		told := w.turn(t, to)
		SameList(t, "EvPrice", told[:1], Numbered(told[0].Seq-1, priced(q.Price, q.Volume, q.Rule)))
	})
}

func TestP16_7AFullFloor(t *testing.T) {
	each(t, func(t *testing.T, kind int) {
		// As many orders as there can be go through a day; half of them trade at the opening, of the others half end with it.
		s := usual(kind)
		s.Config.Capacity, s.Static, s.Stops = api.MaxOrders, api.Ticks, api.MaxStops
		f := made(t, s)
		comes(t, f, api.PreOpen)
		for n := range api.MaxOrders / 4 {
			id, price := uint64(4*n), 1000+n
			takes(t, f, Buy(id+1, price+5000, 2), Sell(id+2, price, 2))
			takesForTheDay(t, f, Buy(id+3, 10+n%500, 3))
			takes(t, f, Sell(id+4, 20000+n, 3))
		}
		refuses(t, f, Buy(api.MaxOrders+1, 100, 1), api.ErrFull)
		refuses(t, f, market(api.MaxOrders+1, api.Buy, 1), api.ErrFull)
		takes(t, f, Replace(1, api.MaxOrders+1, 6000, 2))
		Same(t, "Orders", f.Orders(), api.MaxOrders)
		told, _ := f.Turn(api.Opened)
		Same(t, "what is traded", told[0].Qty, api.MaxOrders/2)
		Same(t, "how much is told", len(told), 2+api.MaxOrders/4)
		Same(t, "Orders", f.Orders(), api.MaxOrders/2)
		for n := range api.MaxStops {
			taken(t, f.Stop(Stop(uint64(n+1), api.Ticks-1, market(0, api.Buy, 1))))
		}
		told, _ = f.Turn(api.PreClose)
		Same(t, "how much is told", len(told), api.MaxStops+1)
		told, _ = f.Turn(api.Closed)
		Same(t, "how much is told", len(told), api.MaxOrders/4+1)
		Same(t, "Orders", f.Orders(), api.MaxOrders/4)
	})
}

func TestP16_9TheGreatestNumbers(t *testing.T) {
	// Behind the greatest ID no other one comes, also none of a stop order's.
	each(t, func(t *testing.T, kind int) {
		const last = math.MaxUint64
		f := floorOf(t, kind, api.PreOpen, Sell(last-2, 101, 1), Sell(last-1, 102, 1))
		turns(t, f, api.Opened, 100)
		a, b := Stop(last-1, 101, market(0, api.Buy, 1)), Stop(last, 102, market(0, api.Buy, 1))
		tells(t, f, f.Stop(a), Stopped(a, 0))
		tells(t, f, f.Stop(b), Stopped(b, 0))
		c := market(last, api.Buy, 1)
		does(t, f, c, Acked(c), Traded(last, last-2, api.Buy, 101, 1), Triggered(last-1, 0), api.Event{Kind: api.EvReject, Code: api.ErrID})
		Same(t, "High", f.High(), last)
		refuses(t, f, Buy(last, 100, 1), api.ErrID)
		turns(t, f, api.Halted, 100, Stopped(b, api.ByDay))
		refuses(t, f, Buy(last, 100, 1), api.ErrID)
		refuses(t, f, Replace(last-1, last, 100, 1), api.ErrID)
		turns(t, f, api.Opened, 100)
		tells(t, f, f.Stop(b), api.Event{Kind: api.EvReject, ID: last, Code: api.ErrNumber})
		does(t, f, Cancel(last-1), Ended(last-1, 1, api.ByOwner))
	})
}

func TestP16_9TheGreatestQuantities(t *testing.T) {
	each(t, func(t *testing.T, kind int) {
		f := floorOf(t, kind, api.Opened, Peaked(Sell(1, 103, api.MaxQty), (api.MaxQty+api.MaxShows)/api.MaxShows), Sell(2, 102, api.MaxQty))
		turns(t, f, api.Halted, 100)
		takes(t, f, Buy(3, 103, api.MaxQty), Buy(4, 103, api.MaxQty-1))
		turns(t, f, api.Opened, 103, priced(103, 2*api.MaxQty-1, api.ByVolume), Traded(3, 2, api.Buy, 103, api.MaxQty), Traded(4, 1, api.Buy, 103, api.MaxQty-1))
		SameList(t, "Sells", f.Book().Sells, []api.Resting{{ID: 1, Type: api.Limit, Price: 103, Visible: 1, Peak: 1 << 24}})
	})
}

func TestP16_11OnAnotherDay(t *testing.T) {
	each(t, func(t *testing.T, kind int) {
		f := floorOf(t, kind, api.Opened)
		s := Stop(5, 109, market(0, api.Buy, 1))
		tells(t, f, f.Stop(s), Stopped(s, 0))
		again := func(number uint64, why api.Errno) {
			t.Helper()
			s := Stop(number, 109, market(0, api.Buy, 1))
			if why == api.OK {
				tells(t, f, f.Stop(s), Stopped(s, 0))
				tells(t, f, f.Withdraw(number), Stopped(s, api.ByOwner))
				return
			}
			tells(t, f, f.Stop(s), api.Event{Kind: api.EvReject, ID: number, Code: why})
		}
		turns(t, f, api.PreClose, 100, Stopped(s, api.ByDay))
		again(5, api.ErrPhase)
		turns(t, f, api.Closed, 100)
		comes(t, f, api.Opened)
		again(5, api.ErrNumber)
		again(4, api.ErrNumber)
		again(6, api.OK)
		Same(t, "Swap", f.Swap(api.List), api.OK)
		again(6, api.ErrNumber)
		again(8, api.OK)
		// A while in which none is placed lets none be taken again.
		turns(t, f, api.Halted, 100)
		turns(t, f, api.Opened, 100)
		turns(t, f, api.Halted, 100)
		turns(t, f, api.Opened, 100)
		again(8, api.ErrNumber)
		again(9, api.OK)
	})
}

func TestP16_2P16_4P16_6NewMemory(t *testing.T) {
	// Whoever writes over what was answered changes nothing, of the floor or of another answer.
	each(t, func(t *testing.T, kind int) {
		mix := Mixer(5)
		f, twin := floorOf(t, kind, api.Closed), floorOf(t, kind, api.Closed)
		on := func(call func(f *phases.Floor) []api.Event) {
			t.Helper()
			told := call(f)
			SameList(t, "what is told", told, call(twin))
			Spoil(told, api.Event{Kind: 77, ID: 1, Qty: 5})
			x := f.Book()
			Spoil(x.Buys, api.Resting{ID: 77})
			Spoil(x.Sells, api.Resting{ID: 77})
			Spoil(f.Interests(api.Buy), api.Interest{ID: 77})
			Spoil(f.Interests(api.Sell), api.Interest{ID: 77})
			Spoil(f.Pending(), api.Stop{Number: 77})
			looked(t, f, asked(twin))
		}
		for range 600 {
			on(func(f *phases.Floor) []api.Event {
				told, _ := f.Turn(int(f.Seq()) % 5)
				return told
			})
			c, s := Likely(&mix, f.High(), 12), LikelyStop(&mix, f.Seq(), 12)
			c.Price, s.Price, s.Trigger = c.Price+94, s.Price+94, s.Trigger+94
			if c.Type == api.Market {
				c.Price, s.Price = 0, 0
			}
			on(func(f *phases.Floor) []api.Event { return f.Do(api.Order{Command: c, Day: c.Qty%2 == 0}) })
			on(func(f *phases.Floor) []api.Event { return f.Stop(s) })
		}
		if f.High() < 100 {
			t.Errorf("only %d orders", f.High())
		}
	})
}

func TestP16_6WhatIsAskedChangesNothing(t *testing.T) {
	runs(t, 8000, func(t *testing.T, mix *Mixer, w *trio, s step) {
		f := Pick(mix, w.floors...)
		want := asked(f)
		for range 2 {
			looked(t, f, want)
		}
	})
}

func TestP16_4APictureOfAWholeDay(t *testing.T) {
	// The order in which all is told, from one turn to the next.
	each(t, func(t *testing.T, kind int) {
		f := floorOf(t, kind, api.PreOpen, Buy(1, 100, 2), market(2, api.Sell, 1))
		var kinds []int
		note := func(told []api.Event) {
			for _, e := range told {
				kinds = append(kinds, e.Kind)
			}
		}
		turn := func(phase int) {
			told, why := f.Turn(phase)
			Same(t, "Turn", why, api.OK)
			note(told)
		}
		turn(api.Opened)
		note(f.Stop(Stop(1, 90, market(0, api.Sell, 1))))
		note(f.Do(api.Order{Command: Sell(3, 104, 1), Day: true}))
		note(f.Do(api.Order{Command: Buy(4, 104, 1)}))
		turn(api.PreClose)
		turn(api.Closed)
		want := []int{api.EvPrice, api.EvTrade, api.EvPhase, api.EvStop, api.EvAck, api.EvReject, api.EvHalt, api.EvStop, api.EvPhase, api.EvPhase, api.EvCancel, api.EvPhase}
		if !slices.Equal(kinds, want) {
			t.Errorf("told: %v, wanted %v", kinds, want)
		}
	})
}
