package bands_test

import (
	"math"
	"testing"

	"bourse/api"
	"bourse/bands"
	. "bourse/sample"
)

func TestP15_1New(t *testing.T) {
	each(t, func(t *testing.T, kind int) {
		for _, reference := range []int{0, 1, 100, api.Ticks - 1} {
			for _, static := range []int{0, 1, api.Ticks - 1, api.Ticks} {
				for _, dynamic := range []int{0, 1, api.Ticks - 1, api.Ticks} {
					g := over(t, engineOf(t, kind, api.Config{Capacity: 2}), reference, static, dynamic)
					Same(t, "State", g.State(), api.Band{Reference: reference, Static: static, Dynamic: dynamic})
					Keeps(t, g, api.Book{Config: api.Config{Capacity: 2}})
				}
			}
		}
		refused := func(reference, static, dynamic int) {
			t.Helper()
			g, why := bands.New(engineOf(t, kind, api.Config{Capacity: 2}), reference, static, dynamic)
			if g != nil || why != api.ErrArg {
				t.Errorf("New(.., %d, %d, %d): %v, %v", reference, static, dynamic, g, why)
			}
		}
		for _, wrong := range wrongPrices() {
			refused(wrong, 10, 3)
		}
		for _, wrong := range wrongWidths() {
			refused(100, wrong, 3)
			refused(100, 10, wrong)
		}
	})
}

func TestP15_1WithoutAnEngine(t *testing.T) {
	for _, reference := range []int{-1, 0, 100, api.Ticks} {
		if g, why := bands.New(nil, reference, 10, 3); g != nil || why != api.ErrArg {
			t.Errorf("New(nil, %d, 10, 3): %v, %v", reference, g, why)
		}
	}
}

func TestP15_1OverAnEngineThatHasOrders(t *testing.T) {
	each(t, func(t *testing.T, kind int) {
		e := engineOf(t, kind, api.Config{Capacity: 4})
		for _, c := range []api.Command{Sell(3, 107, 5), Buy(4, 107, 2)} {
			e.Do(c)
		}
		x := e.Book()
		g := over(t, e, 100, 10, 7)
		Keeps(t, g, x)
		// The trade ahead of New is no last one, and the numbers begin anew.
		Same(t, "State", g.State(), api.Band{Reference: 100, Static: 10, Dynamic: 7})
		c := Buy(5, 107, 1)
		SameList(t, "Do", g.Do(c), Numbered(0, Acked(c), Traded(5, 3, api.Buy, 107, 1)))
		Same(t, "the engine's Seq", g.Book().Seq, x.Seq+2)
	})
}

func TestP15_2Examples(t *testing.T) {
	each(t, func(t *testing.T, kind int) {
		g := guardOf(t, kind)
		does(t, g, Sell(1, 110, 5), Acked(Sell(1, 110, 5)))
		refuses(t, g, Sell(2, 111, 5), api.ErrBand)
		does(t, g, Sell(2, 105, 1), Acked(Sell(2, 105, 1)))
		does(t, g, Sell(3, 103, 1), Acked(Sell(3, 103, 1)))
		c := market(4, api.Buy, 1)
		does(t, g, c, Acked(c), Traded(4, 3, api.Buy, 103, 1))
		Same(t, "State", g.State(), api.Band{Reference: 100, Static: 10, Dynamic: 3, Last: 103, HasLast: true, Seq: 6})
		jumps(t, g, market(5, api.Buy, 2), 110)
		Same(t, "Len", g.Len(), 2)

		refuses(t, g, Buy(5, 99, 2), api.ErrHalted)
		refuses(t, g, Replace(77, 5, 1, 1), api.ErrHalted)
		does(t, g, Cancel(2), Ended(2, 1, api.ByOwner))
		resumes(t, g, 105)
		does(t, g, Buy(5, 99, 2), Acked(Buy(5, 99, 2)))
		refuses(t, g, Replace(5, 9, 120, 1), api.ErrBand)
		does(t, g, Replace(77, 9, 120, 1), Rejected(Replace(77, 9, 120, 1), api.ErrTarget))
	})
}

func TestP15_2WhileItIsHalted(t *testing.T) {
	each(t, func(t *testing.T, kind int) {
		g := guardOf(t, kind, Sell(1, 101, 5), Buy(2, 99, 5))
		tells(t, g, g.Halt(), api.Event{Kind: api.EvHalt})
		// Whatever else is wrong with what would bring an order, it is refused for this.
		for _, c := range []api.Command{
			Buy(3, 100, 1), market(3, api.Buy, 1), Order(3, api.Buy, api.IOC, 1, 1), Buy(1, 100, 1), Buy(0, 100, 0), Sell(3, api.Ticks, 1), Buy(3, math.MinInt, math.MaxUint64),
			Order(3, 0, 0, 0, 0), Replace(1, 3, 101, 1), Replace(1, 0, math.MaxInt, 0), Replace(9, 3, 500, 1), {Kind: api.New}, {Kind: api.New, ID: 8, Target: 1}, {Kind: api.Replace},
		} {
			refuses(t, g, c, api.ErrHalted)
		}
		// All else is the engine's to refuse or to do.
		for _, kind := range []int{0, 4, -1, math.MinInt, math.MaxInt} {
			c := api.Command{Kind: kind, ID: 7, Target: 8}
			does(t, g, c, api.Event{Kind: api.EvReject, ID: 7, Target: 8, Code: api.ErrKind})
		}
		does(t, g, Cancel(9), Rejected(Cancel(9), api.ErrTarget))
		does(t, g, Cancel(1), Ended(1, 5, api.ByOwner))
		Same(t, "Halted", g.State().Halted, true)
		does(t, g, Cancel(2), Ended(2, 5, api.ByOwner))
	})
}

func TestP15_2TheEngineRefusesFirst(t *testing.T) {
	each(t, func(t *testing.T, kind int) {
		g := over(t, engineOf(t, kind, api.Config{Capacity: 2}), 100, 10, 3)
		does(t, g, Sell(5, 110, 1), Acked(Sell(5, 110, 1)))
		does(t, g, Order(6, api.Sell, api.PostOnly, 109, 1), Acked(Order(6, api.Sell, api.PostOnly, 109, 1)))
		// All of these name a price beyond the static band, or would trade beyond the dynamic one.
		for _, x := range []struct {
			c   api.Command
			why api.Errno
		}{
			{Replace(9, 10, 500, 1), api.ErrTarget},
			{Order(10, 0, api.Limit, 500, 1), api.ErrSide},
			{Order(10, api.Buy, 6, 500, 1), api.ErrType},
			{Order(10, api.Buy, api.Market, 500, 1), api.ErrPrice},
			{Buy(10, -1, 1), api.ErrPrice},
			{Buy(10, api.Ticks, 1), api.ErrPrice},
			{Buy(10, math.MaxInt, 1), api.ErrPrice},
			{Buy(10, math.MinInt, 1), api.ErrPrice},
			{Replace(5, 10, math.MinInt, 1), api.ErrPrice},
			{Buy(10, 500, 0), api.ErrQty},
			{market(10, api.Buy, math.MaxUint32+1), api.ErrQty},
			{Peaked(Buy(10, 500, 1), 2), api.ErrPeak},
			{Buy(0, 500, 1), api.ErrID},
			{Buy(6, 500, 1), api.ErrID},
			{market(6, api.Buy, 1), api.ErrID},
			{Replace(5, 6, 500, 1), api.ErrID},
			{Buy(10, 500, 1), api.ErrFull},
			{Order(10, api.Buy, api.PostOnly, 500, 1), api.ErrFull},
		} {
			y, s := g.Book(), g.State()
			does(t, g, x.c, Rejected(x.c, x.why))
			y.Seq++
			Keeps(t, g, y)
			s.Seq++
			Same(t, "State", g.State(), s)
		}
		does(t, g, Cancel(5), Ended(5, 1, api.ByOwner))
		does(t, g, Order(10, api.Buy, api.PostOnly, 500, 1), Rejected(Buy(10, 500, 1), api.ErrCross))
		does(t, g, Buy(10, 90, 1), Acked(Buy(10, 90, 1)))
		does(t, g, Replace(6, 11, 90, 1), Rejected(Replace(6, 11, 90, 1), api.ErrCross))
	})
}

func TestP15_2TheStaticBand(t *testing.T) {
	each(t, func(t *testing.T, kind int) {
		for _, x := range []struct{ reference, static, from, to int }{
			{100, 10, 90, 110}, {100, 0, 100, 100}, {5, 10, 0, 15}, {0, 0, 0, 0}, {0, 3, 0, 3}, {api.Ticks - 3, 5, api.Ticks - 8, api.Ticks - 1},
			{api.Ticks - 1, 0, api.Ticks - 1, api.Ticks - 1}, {0, api.Ticks, 0, api.Ticks - 1}, {api.Ticks - 1, api.Ticks - 1, 0, api.Ticks - 1}, {0, api.Ticks - 2, 0, api.Ticks - 2},
		} {
			for _, price := range []int{0, 1, x.from - 1, x.from, x.from + 1, x.to - 1, x.to, x.to + 1, api.Ticks - 1} {
				if price < 0 || price >= api.Ticks {
					continue
				}
				// The dynamic band is no matter of what does not trade.
				g := over(t, engineOf(t, kind, api.Config{Capacity: 9}), x.reference, x.static, 0)
				g.Do(Buy(1, x.from, 1))
				in := price >= x.from && price <= x.to
				named(t, g, in, Order(2, api.Buy, api.PostOnly, price, 3))
				named(t, g, in, Order(3, api.Buy, api.IOC, price, 3), Ended(3, 3, api.ByRest))
				named(t, g, in, Order(4, api.Buy, api.FOK, price, 3), Ended(4, 3, api.ByFill))
				named(t, g, in, Buy(5, price, 3))
				if c := Replace(1, 6, price, 3); in {
					does(t, g, c, Ended(1, 1, api.ByReplace), Acked(Buy(6, price, 3)))
				} else {
					refuses(t, g, c, api.ErrBand)
				}
			}
		}
	})
}

// named does a New that trades nothing: it is taken, if its price is in the band.
func named(t *testing.T, g *bands.Guard, in bool, c api.Command, more ...api.Event) {
	t.Helper()
	if in {
		does(t, g, c, append([]api.Event{Acked(c)}, more...)...)
		return
	}
	refuses(t, g, c, api.ErrBand)
}

func TestP15_2AMarketNamesNoPrice(t *testing.T) {
	each(t, func(t *testing.T, kind int) {
		// Its Price, which must be 0, is far from the band.
		g := guardOf(t, kind, Sell(1, 101, 1))
		c := market(2, api.Buy, 1)
		does(t, g, c, Acked(c), Traded(2, 1, api.Buy, 101, 1))
		c = market(3, api.Sell, 1)
		does(t, g, c, Acked(c), Ended(3, 1, api.ByRest))
		// A Replace has no type, whatever stands there: its price is looked at.
		g = guardOf(t, kind, Sell(1, 101, 1))
		wide := Replace(1, 2, 0, 1)
		wide.Type = api.Market
		refuses(t, g, wide, api.ErrBand)
		wide.Price = 102
		does(t, g, wide, Ended(1, 1, api.ByReplace), Acked(Sell(2, 102, 1)))
	})
}

func TestP15_2TradesBeyondTheStaticBand(t *testing.T) {
	each(t, func(t *testing.T, kind int) {
		// What rests may be out of the band behind a Resume.
		g := guardOf(t, kind, Sell(1, 105, 1), Sell(2, 110, 1), Buy(3, 91, 1))
		resumes(t, g, 98)
		// 105 is in the static band and not in the dynamic one; 110 is in neither, and that is told first.
		refuses(t, g, market(4, api.Buy, 2), api.ErrBand)
		jumps(t, g, Buy(4, 105, 1), 105)
		resumes(t, g, 120)
		refuses(t, g, market(4, api.Sell, 1), api.ErrBand)
		// Its own price is not in the band, nor is where it would trade; it is not halted.
		refuses(t, g, Sell(4, 91, 1), api.ErrBand)
		// In the band itself, but it would trade out of it.
		refuses(t, g, Buy(4, 112, 1), api.ErrBand)
		refuses(t, g, Replace(3, 4, 112, 1), api.ErrBand)
		Same(t, "Halted", g.State().Halted, false)
		does(t, g, Cancel(1), Ended(1, 1, api.ByOwner))
		jumps(t, g, Replace(3, 4, 112, 1), 110)
	})
}

func TestP15_2TheDynamicBand(t *testing.T) {
	each(t, func(t *testing.T, kind int) {
		for _, x := range []struct{ reference, dynamic int }{{100, 3}, {100, 0}, {1, 3}, {0, 0}, {api.Ticks - 1, 0}, {api.Ticks - 2, 4}, {0, api.Ticks}, {api.Ticks - 1, api.Ticks - 1}, {api.Ticks - 1, api.Ticks - 2}} {
			for _, price := range []int{0, 1, x.reference - x.dynamic - 1, x.reference - x.dynamic, x.reference, x.reference + x.dynamic, x.reference + x.dynamic + 1, api.Ticks - 1} {
				if price < 0 || price >= api.Ticks {
					continue
				}
				for side := api.Buy; side <= api.Sell; side++ {
					far := price < x.reference-x.dynamic || price > x.reference+x.dynamic
					// Without a last trade it is about the reference, with one about that.
					g := over(t, engineOf(t, kind, api.Config{Capacity: 9}), x.reference, api.Ticks, x.dynamic)
					crosses(t, g, far, side, price, 1)
					back(t, g, api.Band{Reference: api.Ticks / 2, Static: api.Ticks, Dynamic: x.dynamic, Last: x.reference, HasLast: true})
					crosses(t, g, far, side, price, 20)
				}
			}
		}
	})
}

// crosses lets an order rest at a price, and another one of each type meet it, always from the same state; it leaves nothing.
func crosses(t *testing.T, g *bands.Guard, far bool, side, price int, id uint64) {
	t.Helper()
	rests := Order(id, 3-side, api.Limit, price, 9)
	does(t, g, rests, Acked(rests))
	from := g.State()
	for _, kind := range []int{api.Limit, api.Market, api.IOC, api.FOK} {
		back(t, g, from)
		id++
		c := Order(id, side, kind, price, 1)
		if kind == api.Market {
			c.Price = 0
		}
		if far {
			jumps(t, g, c, price)
			continue
		}
		does(t, g, c, Acked(c), Traded(c.ID, rests.ID, side, price, 1))
		want := from
		want.Last, want.HasLast, want.Seq = price, true, g.State().Seq
		Same(t, "State", g.State(), want)
	}
	g.Do(Cancel(rests.ID))
}

// back lets a Guard go on from another state, its numbers excepted.
func back(t *testing.T, g *bands.Guard, s api.Band) {
	t.Helper()
	s.Seq = g.State().Seq
	Same(t, "Restore", g.Restore(s, g.Book()), api.OK)
}

func TestP15_2TheLastPriceDoesNotMoveOnTheWay(t *testing.T) {
	each(t, func(t *testing.T, kind int) {
		// Each of the trades would be near to the one ahead of it, but not to the one ahead of the command.
		sells := []api.Command{Sell(1, 102, 1), Sell(2, 104, 1), Sell(3, 106, 1), Sell(4, 108, 1)}
		g := guardOf(t, kind, sells...)
		jumps(t, g, market(5, api.Buy, 4), 104)
		g = guardOf(t, kind, sells...)
		jumps(t, g, Buy(5, 106, 9), 104)
		// One by one they are taken, and the last one counts.
		g = guardOf(t, kind, sells...)
		for i, s := range sells {
			c := market(uint64(5+i), api.Buy, 1)
			does(t, g, c, Acked(c), Traded(c.ID, s.ID, api.Buy, s.Price, 1))
			Same(t, "Last", g.State().Last, s.Price)
		}
		g = guardOf(t, kind, Buy(1, 103, 1), Buy(2, 98, 1), Buy(3, 97, 1))
		c := market(4, api.Sell, 3)
		does(t, g, c, Acked(c), Traded(4, 1, api.Sell, 103, 1), Traded(4, 2, api.Sell, 98, 1), Traded(4, 3, api.Sell, 97, 1))
		Same(t, "Last", g.State().Last, 97)
		// About 97 now, and no more about the reference.
		does(t, g, Sell(5, 101, 1), Acked(Sell(5, 101, 1)))
		jumps(t, g, market(6, api.Buy, 1), 101)
	})
}

func TestP15_2ThePriceItTradesAtCounts(t *testing.T) {
	each(t, func(t *testing.T, kind int) {
		// A Limit far from the last price, that trades near to it and rests.
		g := guardOf(t, kind, Sell(1, 102, 2), Sell(2, 107, 1))
		c := Buy(3, 106, 5)
		does(t, g, c, Acked(c), Traded(3, 1, api.Buy, 102, 2))
		Same(t, "State", g.State(), api.Band{Reference: 100, Static: 10, Dynamic: 3, Last: 102, HasLast: true, Seq: 4})
		// An FOK that would trade too far, were it whole, trades nothing.
		c = Order(4, api.Buy, api.FOK, 107, 2)
		does(t, g, c, Acked(c), Ended(4, 2, api.ByFill))
		jumps(t, g, Order(5, api.Buy, api.FOK, 107, 1), 107)
		Same(t, "Last", g.State().Last, 102)
	})
}

func TestP15_2OrdersOfOneMember(t *testing.T) {
	each(t, func(t *testing.T, kind int) {
		// What ends without a trade moves no price, and nothing is taken back.
		meets := func(meet int) *bands.Guard {
			g := over(t, engineOf(t, kind, api.Config{Capacity: 9, Meet: meet}), 100, 10, 3)
			for _, c := range []api.Command{By(Sell(1, 107, 2), 7), By(Sell(2, 108, 2), 8)} {
				does(t, g, c, Acked(c))
			}
			return g
		}
		c := By(market(3, api.Buy, 1), 7)
		does(t, meets(api.MeetNewest), c, Acked(c), Ended(3, 1, api.ByMeet))
		does(t, meets(api.MeetBoth), c, Acked(c), Ended(1, 2, api.ByMeet), Ended(3, 1, api.ByMeet))
		jumps(t, meets(api.MeetTrade), c, 107)
		// The one that would be cancelled stays, as the next one is too far.
		jumps(t, meets(api.MeetOldest), c, 108)
		g := meets(api.MeetOldest)
		c = By(Buy(3, 107, 1), 7)
		does(t, g, c, Acked(c), Ended(1, 2, api.ByMeet))
		Same(t, "State", g.State(), api.Band{Reference: 100, Static: 10, Dynamic: 3, Seq: 4})
	})
}

func TestP15_2Icebergs(t *testing.T) {
	each(t, func(t *testing.T, kind int) {
		first := []api.Command{Peaked(Sell(1, 103, 10), 4), Sell(2, 103, 1), Sell(3, 104, 5)}
		g := guardOf(t, kind, first...)
		// All that it hides would be traded first: what would be left comes to 104.
		jumps(t, g, Buy(4, 104, 12), 104)
		Keeps(t, g, guardOf(t, kind, first...).Book())
		resumes(t, g, 101)
		c := Buy(4, 104, 12)
		does(t, g, c, Acked(c), Traded(4, 1, api.Buy, 103, 4), Refreshed(1, 103, 4), Traded(4, 2, api.Buy, 103, 1), Traded(4, 1, api.Buy, 103, 4), Refreshed(1, 103, 2), Traded(4, 1, api.Buy, 103, 2), Traded(4, 3, api.Buy, 104, 1))
		Same(t, "Last", g.State().Last, 104)
	})
}

func TestP15_3Halt(t *testing.T) {
	each(t, func(t *testing.T, kind int) {
		g := guardOf(t, kind, Sell(1, 103, 5), Buy(2, 103, 1))
		s, x := g.State(), g.Book()
		SameList(t, "Halt", g.Halt(), []api.Event{{Seq: 4, Kind: api.EvHalt}})
		s.Halted, s.Seq = true, 4
		Same(t, "State", g.State(), s)
		SameList(t, "Halt", g.Halt(), nil)
		SameList(t, "Halt", g.Halt(), nil)
		Same(t, "State", g.State(), s)
		Keeps(t, g, x)
		resumes(t, g, 104)
		tells(t, g, g.Halt(), api.Event{Kind: api.EvHalt})
		// It is halted already, where a trade would jump.
		refuses(t, g, market(3, api.Buy, 9), api.ErrHalted)
	})
}

func TestP15_3Resume(t *testing.T) {
	each(t, func(t *testing.T, kind int) {
		g := guardOf(t, kind, Sell(1, 103, 5), Buy(2, 103, 1))
		x := g.Book()
		for _, halt := range []bool{false, true} {
			if halt {
				g.Halt()
			}
			s := g.State()
			for _, wrong := range wrongPrices() {
				told, why := g.Resume(wrong)
				if len(told) != 0 || why != api.ErrArg {
					t.Errorf("Resume(%d): %v, %v", wrong, told, why)
				}
				Same(t, "State", g.State(), s)
			}
		}
		// From a halt, and when there is none; to a reference that is the same, too.
		for _, reference := range []int{103, 103, 0, api.Ticks - 1, 107} {
			resumes(t, g, reference)
		}
		Keeps(t, g, x)
		// The bands are about it from then on.
		refuses(t, g, Buy(3, 96, 1), api.ErrBand)
		jumps(t, g, market(3, api.Buy, 1), 103)
		resumes(t, g, 106)
		c := market(3, api.Buy, 1)
		does(t, g, c, Acked(c), Traded(3, 1, api.Buy, 103, 1))
	})
}
