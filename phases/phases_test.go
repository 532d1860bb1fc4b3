package phases_test

import (
	"math"
	"testing"

	"bourse/api"
	"bourse/phases"
	. "bourse/sample"
)

// calls is the phases in which there is one.
func calls() []int { return []int{api.PreOpen, api.Halted, api.PreClose} }

func TestP16_1New(t *testing.T) {
	least := api.Session{Config: api.Config{Capacity: 1}, Engine: api.Tree}
	most := api.Session{Config: api.Config{Capacity: api.MaxOrders, Meet: 3}, Engine: api.List, Reference: api.Ticks - 1, Static: api.Ticks, Dynamic: api.Ticks, Stops: api.MaxStops}
	for _, s := range []api.Session{least, most, usual(api.Tree), usual(api.Ladder), usual(api.List)} {
		f := made(t, s)
		looked(t, f, seen{phase: api.Closed, reference: s.Reference, book: api.Book{Config: s.Config}})
	}
	for _, s := range []api.Session{least, most, usual(api.Ladder)} {
		for _, spoil := range []func(s *api.Session){
			func(s *api.Session) { s.Config.Capacity = 0 },
			func(s *api.Session) { s.Config.Capacity = -1 },
			func(s *api.Session) { s.Config.Capacity = api.MaxOrders + 1 },
			func(s *api.Session) { s.Config.Meet = -1 },
			func(s *api.Session) { s.Config.Meet = 4 },
			func(s *api.Session) { s.Engine = 0 },
			func(s *api.Session) { s.Engine = 4 },
			func(s *api.Session) { s.Engine = math.MinInt },
			func(s *api.Session) { s.Reference = -1 },
			func(s *api.Session) { s.Reference = api.Ticks },
			func(s *api.Session) { s.Static = -1 },
			func(s *api.Session) { s.Static = api.Ticks + 1 },
			func(s *api.Session) { s.Dynamic = -1 },
			func(s *api.Session) { s.Dynamic = api.Ticks + 1 },
			func(s *api.Session) { s.Stops = -1 },
			func(s *api.Session) { s.Stops = api.MaxStops + 1 },
			func(s *api.Session) { s.Reference, s.Static = math.MaxInt, math.MaxInt },
		} {
			s := s
			spoil(&s)
			if f, why := phases.New(s); f != nil || why != api.ErrArg {
				t.Errorf("New(%+v): %v, %v", s, f, why)
			}
		}
	}
}

func TestP16_1WhatNewDidNotMake(t *testing.T) {
	// What it answers is open; that it does not panic is not.
	var f phases.Floor
	for range 2 {
		f.Do(api.Order{Command: Buy(1, 1, 1), Day: true})
		f.Do(api.Order{Command: Cancel(1)})
		f.Do(api.Order{Command: Replace(1, 2, 1, 1)})
		f.Do(api.Order{})
		f.Stop(Stop(1, 1, Buy(0, 1, 1)))
		f.Withdraw(1)
		f.Swap(api.Tree)
		for phase := range 5 {
			f.Turn(phase)
		}
		asked(&f)
	}
}

func TestP16_2Closed(t *testing.T) {
	each(t, func(t *testing.T, kind int) {
		f := floorOf(t, kind, api.PreOpen, Buy(1, 95, 5), Sell(2, 105, 5), Peaked(Buy(3, 99, 7), 3))
		turns(t, f, api.Opened, 100)
		turns(t, f, api.PreClose, 100)
		turns(t, f, api.Closed, 100)
		// Whatever else is wrong with what would bring an order, it is refused for this.
		for _, c := range []api.Command{
			Buy(9, 100, 1), market(9, api.Buy, 1), Buy(1, 100, 1), Buy(0, -1, 0), Order(9, 0, 0, 0, 0), {Kind: api.New, ID: 8, Target: 1}, {Kind: api.New},
			Replace(1, 9, 100, 1), Replace(77, 9, 100, 1), Replace(1, 0, math.MaxInt, 0), {Kind: api.Replace},
		} {
			refuses(t, f, c, api.ErrPhase)
		}
		for _, none := range []int{0, 4, -1, math.MinInt, math.MaxInt} {
			refuses(t, f, api.Command{Kind: none, ID: 7, Target: 1}, api.ErrKind)
		}
		refuses(t, f, api.Command{Kind: api.Cancel, ID: 7, Target: 9}, api.ErrTarget)
		does(t, f, api.Command{Kind: api.Cancel, ID: 7, Target: 3, Price: -1}, Ended(3, 7, api.ByOwner))
		refuses(t, f, Cancel(3), api.ErrTarget)
		does(t, f, Cancel(2), Ended(2, 5, api.ByOwner))
		Same(t, "Orders", f.Orders(), 1)
		Same(t, "High", f.High(), 3)
	})
}

func TestP16_2ExamplesOfACall(t *testing.T) {
	each(t, func(t *testing.T, kind int) {
		f := made(t, usual(kind))
		refuses(t, f, Buy(1, 101, 5), api.ErrPhase)
		_, why := f.Turn(api.PreClose)
		Same(t, "Turn", why, api.ErrPhase)
		turns(t, f, api.PreOpen, 100)
		for _, c := range []api.Command{Buy(1, 101, 5), Sell(2, 99, 3), market(3, api.Sell, 1)} {
			does(t, f, c, Acked(c))
		}
		for _, kind := range []int{api.IOC, api.FOK, api.PostOnly} {
			refuses(t, f, Order(4, api.Buy, kind, 100, 1), api.ErrPhase)
		}
		refuses(t, f, Buy(4, 111, 1), api.ErrBand)
		Same(t, "Quote", quote(f), quoted{api.Quote{Price: 101, Volume: 4, Surplus: 1, Side: api.Buy, Rule: api.ByPressure}, true})
	})
}

func TestP16_2InACallWhatIsRefusedFirst(t *testing.T) {
	each(t, func(t *testing.T, kind int) {
		for _, phase := range calls() {
			f := made(t, api.Session{Config: api.Config{Capacity: 3}, Engine: kind, Reference: 100, Static: 10, Dynamic: 3})
			comes(t, f, phase)
			takes(t, f, Buy(5, 95, 1), market(6, api.Sell, 2), Peaked(Buy(7, 95, 9), 2))
			// Each is wrong in all that comes behind it, too, as far as that can be.
			for _, x := range []struct {
				c   api.Command
				why api.Errno
			}{
				{api.Command{Kind: 4, ID: 1, Target: 99, Side: 3}, api.ErrKind},
				{api.Command{Kind: 0, ID: 1, Target: 5}, api.ErrKind},
				{Cancel(99), api.ErrTarget},
				{Cancel(0), api.ErrTarget},
				{Replace(99, 0, -1, 0), api.ErrTarget},
				{Order(1, 0, 9, -1, 0), api.ErrSide},
				{Order(1, 3, api.FOK, 500, 1), api.ErrSide},
				{Order(1, api.Buy, 6, -1, 0), api.ErrType},
				{Order(1, api.Buy, 0, 500, 1), api.ErrType},
				{Order(1, api.Buy, api.PostOnly, api.Ticks, 0), api.ErrPrice},
				{Buy(1, math.MinInt, 0), api.ErrPrice},
				{Buy(1, math.MaxInt, 0), api.ErrPrice},
				{Order(1, api.Buy, api.Market, 500, 0), api.ErrPrice},
				{Replace(5, 1, -1, 0), api.ErrPrice},
				{Order(1, api.Buy, api.IOC, 500, 0), api.ErrQty},
				{Replace(5, 1, 500, math.MaxUint32+1), api.ErrQty},
				{Peaked(Order(0, api.Buy, api.IOC, 500, 1), 1), api.ErrPeak},
				{Peaked(market(0, api.Buy, 1), 1), api.ErrPeak},
				{Peaked(Replace(5, 0, 500, 1), 2), api.ErrPeak},
				{Order(0, api.Buy, api.IOC, 500, 1), api.ErrID},
				{Buy(0, 500, 1), api.ErrID},
				{Replace(5, 0, 500, 1), api.ErrID},
				{Order(1, api.Buy, api.IOC, 500, 1), api.ErrPhase},
				{Order(7, api.Buy, api.FOK, 500, 1), api.ErrPhase},
				{Order(8, api.Buy, api.PostOnly, 500, 1), api.ErrPhase},
				{Buy(7, 500, 1), api.ErrID},
				{market(7, api.Buy, 1), api.ErrID},
				{Replace(5, 7, 500, 1), api.ErrID},
				{Buy(8, 111, 1), api.ErrBand},
				{Buy(8, 89, 1), api.ErrBand},
				{Sell(8, 0, 1), api.ErrBand},
				{Sell(8, api.Ticks-1, 1), api.ErrBand},
				{Replace(5, 8, 111, 1), api.ErrBand},
				{Replace(7, 8, 89, 1), api.ErrBand},
				// The type that stands in a Replace is none.
				{api.Command{Kind: api.Replace, Target: 5, ID: 8, Type: api.Market, Qty: 1}, api.ErrBand},
				{Buy(8, 110, 1), api.ErrFull},
				{Sell(8, 90, 1), api.ErrFull},
				{market(8, api.Buy, 1), api.ErrFull},
			} {
				refuses(t, f, x.c, x.why)
			}
			// A New has no Target, and a Cancel nothing else.
			refuses(t, f, api.Command{Kind: api.New, ID: 8, Target: 5, Side: api.Buy, Type: api.IOC, Qty: 1}, api.ErrPhase)
			does(t, f, api.Command{Kind: api.Cancel, ID: 1, Target: 5, Side: 9, Price: -1}, Ended(5, 1, api.ByOwner))
		}
	})
}

func TestP16_2ReplaceOfAMarket(t *testing.T) {
	each(t, func(t *testing.T, kind int) {
		for _, phase := range calls() {
			f := floorOf(t, kind, phase, By(market(5, api.Sell, 2), 7), Buy(6, 95, 1))
			for _, x := range []struct {
				c   api.Command
				why api.Errno
			}{
				{Replace(5, 1, api.Ticks, 0), api.ErrPrice},
				{Replace(5, 1, 1, 0), api.ErrQty},
				{Peaked(Replace(5, 1, 1, 1), 2), api.ErrPeak},
				{Replace(5, 0, 1, 1), api.ErrID},
				{Peaked(Replace(5, 1, 1, 1), 1), api.ErrPrice},
				{Peaked(Replace(5, 7, 100, 1), 1), api.ErrPrice},
				{Peaked(Replace(5, 1, 0, 1), 1), api.ErrPeak},
				{Peaked(Replace(5, 7, 0, 1), 1), api.ErrPeak},
				{Replace(5, 6, 0, 1), api.ErrID},
			} {
				refuses(t, f, x.c, x.why)
			}
			// What stands in a Replace beside its fields is not looked at.
			c := api.Command{Kind: api.Replace, Target: 5, ID: 7, Member: 9, Side: api.Buy, Type: api.PostOnly, Qty: 4}
			does(t, f, c, Ended(5, 2, api.ByReplace), Acked(By(market(7, api.Sell, 4), 7)))
			SameList(t, "Interests", f.Interests(api.Sell), []api.Interest{Interest(By(market(7, api.Sell, 4), 7))})
		}
	})
}

func TestP16_2TheBandOfACall(t *testing.T) {
	each(t, func(t *testing.T, kind int) {
		for _, x := range []struct{ reference, static, from, to int }{
			{100, 10, 90, 110}, {100, 0, 100, 100}, {3, 5, 0, 8}, {api.Ticks - 3, 5, api.Ticks - 8, api.Ticks - 1}, {0, api.Ticks, 0, api.Ticks - 1}, {api.Ticks - 1, api.Ticks - 1, 0, api.Ticks - 1},
		} {
			f := made(t, api.Session{Config: api.Config{Capacity: 9}, Engine: kind, Reference: x.reference, Static: x.static})
			comes(t, f, api.PreOpen)
			takes(t, f, Buy(1, x.from, 1), Sell(2, x.to, 1), market(3, api.Buy, 1), Replace(1, 4, x.to, 1), Replace(2, 5, x.from, 1))
			for _, beyond := range []int{x.from - 1, x.to + 1} {
				if beyond >= 0 && beyond < api.Ticks {
					refuses(t, f, Buy(6, beyond, 1), api.ErrBand)
					refuses(t, f, Replace(4, 6, beyond, 1), api.ErrBand)
				}
			}
		}
	})
}

func TestP16_2ACall(t *testing.T) {
	each(t, func(t *testing.T, kind int) {
		for _, phase := range calls() {
			f := floorOf(t, kind, phase)
			iceberg := By(Peaked(Buy(2, 101, 9), 4), 7)
			for _, c := range []api.Command{By(Buy(1, 101, 5), 8), iceberg, Sell(4, 99, 3), market(5, api.Sell, 1)} {
				does(t, f, c, Acked(c))
				Same(t, "High", f.High(), c.ID)
			}
			Same(t, "Orders", f.Orders(), 4)
			SameList(t, "Interests", f.Interests(api.Buy), []api.Interest{Interest(By(Buy(1, 101, 5), 8)), Interest(By(Buy(2, 101, 9), 7))})
			SameList(t, "Interests", f.Interests(api.Sell), []api.Interest{Interest(market(5, api.Sell, 1)), Interest(Sell(4, 99, 3))})
			// One that comes by a Replace stands behind all others at its price, be it the same one.
			does(t, f, Replace(1, 6, 101, 8), Ended(1, 5, api.ByReplace), Acked(By(Buy(6, 101, 8), 8)))
			SameList(t, "Interests", f.Interests(api.Buy), []api.Interest{Interest(By(Buy(2, 101, 9), 7)), Interest(By(Buy(6, 101, 8), 8))})
			does(t, f, Peaked(Replace(2, 8, 102, 6), 3), Ended(2, 9, api.ByReplace), Acked(By(Peaked(Buy(8, 102, 6), 3), 7)))
			does(t, f, Cancel(5), Ended(5, 1, api.ByOwner))
			refuses(t, f, Cancel(5), api.ErrTarget)
			refuses(t, f, Replace(2, 9, 100, 1), api.ErrTarget)
			Same(t, "High", f.High(), 8)
			Same(t, "Orders", f.Orders(), 3)
		}
	})
}

func TestP16_2InACallOrdersOfAMemberMeet(t *testing.T) {
	// What a book does where an order meets one of its own member is no matter of a call.
	each(t, func(t *testing.T, kind int) {
		for meet := range 4 {
			s := usual(kind)
			s.Config.Meet = meet
			f := made(t, s)
			comes(t, f, api.PreOpen)
			takes(t, f, By(Buy(1, 100, 1), 7), By(Sell(2, 100, 1), 7))
			turns(t, f, api.Opened, 100, priced(100, 1, api.ByVolume), Traded(1, 2, api.Buy, 100, 1))
		}
	})
}

func TestP16_2APostOnlyInACall(t *testing.T) {
	each(t, func(t *testing.T, kind int) {
		f := floorOf(t, kind, api.Opened, By(Peaked(postOnly(1, api.Buy, 98, 9), 3), 7), Sell(2, 102, 1))
		turns(t, f, api.Halted, 100)
		SameList(t, "Interests", f.Interests(api.Buy), []api.Interest{Interest(By(Buy(1, 98, 9), 7))})
		// It may cross there, and is told and kept with its own type.
		does(t, f, Peaked(Replace(1, 3, 103, 6), 2), Ended(1, 9, api.ByReplace), Acked(By(Peaked(postOnly(3, api.Buy, 103, 6), 2), 7)))
		turns(t, f, api.Opened, 103, priced(103, 1, api.ByPressure), Traded(3, 2, api.Buy, 103, 1))
		want := []api.Resting{{ID: 3, Member: 7, Type: api.PostOnly, Price: 103, Visible: 2, Hidden: 3, Peak: 2}}
		SameList(t, "Buys", f.Book().Buys, want)
	})
}

func TestP16_2Opened(t *testing.T) {
	each(t, func(t *testing.T, kind int) {
		f := floorOf(t, kind, api.Opened)
		for _, c := range []api.Command{Sell(1, 103, 5), Peaked(Buy(2, 97, 9), 4), postOnly(3, api.Sell, 110, 1)} {
			does(t, f, c, Acked(c))
		}
		for _, c := range []api.Command{Order(4, api.Buy, api.IOC, 103, 2), market(5, api.Buy, 1)} {
			does(t, f, c, Acked(c), Traded(c.ID, 1, api.Buy, 103, c.Qty))
		}
		c := Order(6, api.Sell, api.FOK, 97, 10)
		does(t, f, c, Acked(c), Ended(6, 10, api.ByFill))
		refuses(t, f, Buy(7, 111, 1), api.ErrBand)
		refuses(t, f, Buy(6, 100, 1), api.ErrID)
		refuses(t, f, postOnly(7, api.Buy, 103, 1), api.ErrCross)
		refuses(t, f, Replace(9, 7, 100, 1), api.ErrTarget)
		refuses(t, f, api.Command{Kind: 4, ID: 7, Target: 9}, api.ErrKind)
		does(t, f, Replace(3, 7, 109, 2), Ended(3, 1, api.ByReplace), Acked(postOnly(7, api.Sell, 109, 2)))
		does(t, f, Cancel(1), Ended(1, 2, api.ByOwner))
		Same(t, "High", f.High(), 7)
		Same(t, "Phase", f.Phase(), api.Opened)
		// The reference is the one with which trading began, wherever trades are.
		Same(t, "Reference", f.Reference(), 100)
	})
}

func TestP16_2ExamplesOfAHalt(t *testing.T) {
	each(t, func(t *testing.T, kind int) {
		f := floorOf(t, kind, api.Opened, Sell(1, 105, 5), Sell(2, 104, 1), Buy(3, 92, 1))
		x := f.Book()
		does(t, f, Buy(4, 105, 2), Rejected(Buy(4, 105, 2), api.ErrJump), halted(104), begins(api.Halted, 100))
		Same(t, "Phase", f.Phase(), api.Halted)
		Same(t, "High", f.High(), 3)
		SameList(t, "Interests", f.Interests(api.Sell), []api.Interest{Interest(Sell(2, 104, 1)), Interest(Sell(1, 105, 5))})
		turns(t, f, api.Opened, 100)
		y := f.Book()
		SameList(t, "Buys", y.Buys, x.Buys)
		SameList(t, "Sells", y.Sells, x.Sells)
		// It goes on with a Guard that is not halted.
		does(t, f, Buy(4, 103, 1), Acked(Buy(4, 103, 1)))
		does(t, f, Replace(4, 5, 104, 1), Rejected(Replace(4, 5, 104, 1), api.ErrJump), halted(104), begins(api.Halted, 100))
	})
}

func TestP16_2Day(t *testing.T) {
	each(t, func(t *testing.T, kind int) {
		for _, phase := range []int{api.PreOpen, api.Opened, api.Halted, api.PreClose} {
			f := floorOf(t, kind, phase, Buy(2, 95, 5))
			takesForTheDay(t, f, Buy(3, 96, 5))
			days := func(want ...uint64) {
				t.Helper()
				SameList(t, "IsDay", asked(f).days, want)
			}
			days(3)
			// By a Replace an order is for the day if the one was that it replaces, whatever is said.
			takes(t, f, Replace(3, 4, 97, 5))
			takesForTheDay(t, f, Replace(2, 5, 94, 5))
			days(4)
			takesForTheDay(t, f, Sell(6, 105, 5))
			days(4, 6)
			// What is refused is for no day.
			f.Do(api.Order{Command: Sell(5, 105, 5), Day: true})
			f.Do(api.Order{Command: Sell(9, 500, 5), Day: true})
			f.Do(api.Order{Command: Replace(6, 5, 105, 5), Day: true})
			days(4, 6)
			takesForTheDay(t, f, Cancel(4))
			days(6)
			if phase != api.Opened {
				takesForTheDay(t, f, market(7, api.Buy, 1))
				days(6, 7)
			}
		}
	})
}

func TestP16_2DayOfWhatIsTraded(t *testing.T) {
	each(t, func(t *testing.T, kind int) {
		f := floorOf(t, kind, api.Opened)
		takesForTheDay(t, f, Sell(1, 101, 5), Sell(2, 101, 5), Buy(3, 101, 7))
		SameList(t, "IsDay", asked(f).days, []uint64{2})
		takesForTheDay(t, f, Order(4, api.Buy, api.IOC, 101, 1), market(5, api.Buy, 1), Order(6, api.Buy, api.FOK, 101, 9))
		SameList(t, "IsDay", asked(f).days, []uint64{2})
		takesForTheDay(t, f, Buy(7, 102, 2))
		SameList(t, "IsDay", asked(f).days, []uint64{7})
		// A stop order may have the number of an order, of which nothing is told by it.
		taken(t, f.Stop(Stop(7, 90, market(0, api.Sell, 1))))
		taken(t, f.Withdraw(7))
		SameList(t, "IsDay", asked(f).days, []uint64{7})
	})
}

func TestP16_3NotOpened(t *testing.T) {
	each(t, func(t *testing.T, kind int) {
		for _, phase := range []int{api.Closed, api.PreOpen, api.Halted, api.PreClose} {
			f := floorOf(t, kind, phase)
			for _, s := range []api.Stop{{}, {Number: 1}, {Number: math.MaxUint64, Side: 9, Trigger: -1}, Stop(5, 100, Buy(0, 100, 1))} {
				want := asked(f)
				tells(t, f, f.Stop(s), api.Event{Kind: api.EvReject, ID: s.Number, Code: api.ErrPhase})
				want.book.Seq++
				looked(t, f, want)
				tells(t, f, f.Withdraw(s.Number), api.Event{Kind: api.EvReject, Target: s.Number, Code: api.ErrPhase})
				want.book.Seq++
				looked(t, f, want)
			}
			// None of these numbers was taken.
			if phase == api.Halted {
				turns(t, f, api.Opened, 100)
				s := Stop(1, 105, Buy(0, 100, 1))
				tells(t, f, f.Stop(s), Stopped(s, 0))
			}
		}
	})
}

func TestP16_3Opened(t *testing.T) {
	each(t, func(t *testing.T, kind int) {
		f := floorOf(t, kind, api.Opened, Sell(1, 101, 2), Sell(2, 102, 2))
		a, b := Stop(3, 101, By(Peaked(Buy(0, 102, 4), 2), 7)), Stop(5, 90, market(0, api.Sell, 1))
		tells(t, f, f.Stop(a), Stopped(a, 0))
		tells(t, f, f.Stop(b), Stopped(b, 0))
		SameList(t, "Pending", f.Pending(), []api.Stop{a, b})
		refused := func(s api.Stop, why api.Errno) {
			t.Helper()
			tells(t, f, f.Stop(s), api.Event{Kind: api.EvReject, ID: s.Number, Code: why})
			SameList(t, "Pending", f.Pending(), []api.Stop{a, b})
		}
		refused(Stop(6, 101, Buy(0, 102, 1)), api.ErrWaiting)
		refused(Stop(5, 101, Buy(0, 102, 1)), api.ErrNumber)
		refused(Stop(6, api.Ticks, Buy(0, 102, 1)), api.ErrTrigger)
		refused(Stop(6, 101, Buy(0, 102, 0)), api.ErrQty)
		// Its order comes for the day, though the one that let it go did not.
		c := market(3, api.Buy, 1)
		ack := By(Peaked(Buy(4, 102, 4), 2), 7)
		does(t, f, c, Acked(c), Traded(3, 1, api.Buy, 101, 1), Triggered(3, 4), Acked(ack), Traded(4, 1, api.Buy, 101, 1), Traded(4, 2, api.Buy, 102, 2))
		Same(t, "High", f.High(), 4)
		SameList(t, "IsDay", asked(f).days, []uint64{4})
		SameList(t, "Pending", f.Pending(), []api.Stop{b})
		tells(t, f, f.Withdraw(3), api.Event{Kind: api.EvReject, Target: 3, Code: api.ErrStop})
		tells(t, f, f.Withdraw(5), Stopped(b, api.ByOwner))
		SameList(t, "Pending", f.Pending(), nil)
		// One that is met already goes at once.
		d := Stop(6, 102, postOnly(0, api.Sell, 104, 1))
		tells(t, f, f.Stop(d), Stopped(d, 0), Triggered(6, 5), Acked(postOnly(5, api.Sell, 104, 1)))
		SameList(t, "IsDay", asked(f).days, []uint64{4, 5})
	})
}

func TestP16_3AHaltByAStopOrder(t *testing.T) {
	each(t, func(t *testing.T, kind int) {
		s := usual(kind)
		s.Stops = 9
		open := func() *phases.Floor {
			f := made(t, s)
			comes(t, f, api.Opened)
			takes(t, f, Sell(1, 101, 1), Sell(2, 109, 1))
			return f
		}
		a, b, c := Stop(1, 101, market(0, api.Buy, 1)), Stop(2, 90, market(0, api.Sell, 1)), Stop(4, 100, Buy(0, 99, 1))
		f := open()
		for _, s := range []api.Stop{a, b, c} {
			tells(t, f, f.Stop(s), Stopped(s, 0))
		}
		// The first one jumps; the one that is met behind it is refused while it is halted; the other one ends.
		n := market(3, api.Buy, 1)
		does(t, f, n, Acked(n), Traded(3, 1, api.Buy, 101, 1), Triggered(1, 4), Rejected(market(4, api.Buy, 1), api.ErrJump), halted(109), Triggered(4, 4), Rejected(Buy(4, 99, 1), api.ErrHalted), Stopped(b, api.ByDay), begins(api.Halted, 100))
		Same(t, "Phase", f.Phase(), api.Halted)
		Same(t, "High", f.High(), 3)
		SameList(t, "Pending", f.Pending(), nil)
		// The same by one that is placed when it is met.
		f = open()
		takes(t, f, market(3, api.Buy, 1))
		tells(t, f, f.Stop(b), Stopped(b, 0))
		d := Stop(7, 101, market(0, api.Buy, 1))
		tells(t, f, f.Stop(d), Stopped(d, 0), Triggered(7, 4), Rejected(market(4, api.Buy, 1), api.ErrJump), halted(109), Stopped(b, api.ByDay), begins(api.Halted, 100))
		Same(t, "Phase", f.Phase(), api.Halted)
		turns(t, f, api.Opened, 100)
		tells(t, f, f.Stop(d), api.Event{Kind: api.EvReject, ID: 7, Code: api.ErrNumber})
	})
}
