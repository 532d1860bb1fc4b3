package auction_test

import (
	"math"
	"slices"
	"testing"

	"bourse/api"
	"bourse/auction"
	. "bourse/sample"
)

func TestP14_1New(t *testing.T) {
	for _, reference := range []int{0, 1, 100, 1<<18 - 2, 1<<18 - 1} {
		for _, room := range []int{1, 2, 4095, 4096} {
			c := made(t, reference, room)
			keeps(t, c, nil, nil)
			Same(t, "Quote", quote(c), quoted{})
			Same(t, "Curve", curve(c, reference), [2]uint64{})
		}
	}
}

func TestP14_1NewOfWhatCantBe(t *testing.T) {
	for _, x := range []struct{ reference, room int }{
		{-1, 1}, {1 << 18, 1}, {math.MinInt, 1}, {math.MaxInt, 1}, {1<<32 + 5, 1},
		{5, 0}, {5, -1}, {5, 4097}, {5, math.MinInt}, {5, math.MaxInt}, {5, 1<<32 + 1},
		{-1, 0}, {1 << 18, 4097},
	} {
		if c, why := auction.New(x.reference, x.room); c != nil || why != api.ErrArg {
			t.Errorf("New(%d, %d): %v, %v", x.reference, x.room, c, why)
		}
	}
}

func TestP14_1Anchor(t *testing.T) {
	c := callOf(t, 100, buys(1, 105, 10), sells(2, 95, 10))
	for _, reference := range []int{97, 95, 105, 96, 104} {
		Same(t, "Anchor", c.Anchor(reference), api.OK)
		Same(t, "Quote", quote(c), quoted{api.Quote{Price: reference, Volume: 10, Rule: api.ByReference}, true})
		for _, wrong := range []int{-1, api.Ticks, math.MinInt, math.MaxInt, 1<<32 + 5} {
			Same(t, "Anchor", c.Anchor(wrong), api.ErrArg)
			Same(t, "Quote", quote(c).quote.Price, reference)
		}
	}
	// Where nothing is traded at the reference, it is the nearer end.
	Same(t, "Anchor", c.Anchor(0), api.OK)
	Same(t, "Quote", quote(c).quote.Price, 95)
	Same(t, "Anchor", c.Anchor(api.Ticks-1), api.OK)
	Same(t, "Quote", quote(c).quote.Price, 105)
	keeps(t, c, []api.Interest{buys(1, 105, 10)}, []api.Interest{sells(2, 95, 10)})
}

func TestP14_2TheFirstError(t *testing.T) {
	faults := []struct {
		why  api.Errno
		turn func(i *api.Interest)
	}{
		{api.ErrSide, func(i *api.Interest) { i.Side = 3 }},
		{api.ErrType, func(i *api.Interest) { i.Type = api.IOC }},
		{api.ErrPrice, func(i *api.Interest) { i.Price = -1 }},
		{api.ErrQty, func(i *api.Interest) { i.Qty = 0 }},
		{api.ErrID, func(i *api.Interest) { i.ID = 7 }},
	}
	for _, room := range []int{2, 3} {
		for set := range 1 << len(faults) {
			c := made(t, 100, room)
			l := []api.Interest{buys(7, 10, 1), sells(8, 11, 1)}
			for _, i := range l {
				Same(t, "Enter", c.Enter(i), api.OK)
			}
			i, want := sells(9, 12, 5), api.OK
			if room == 2 {
				want = api.ErrFull
			}
			for n := len(faults) - 1; n >= 0; n-- {
				if set>>n&1 == 1 {
					faults[n].turn(&i)
					want = faults[n].why
				}
			}
			Same(t, "Enter", c.Enter(i), want)
			if want != api.OK {
				keeps(t, c, l[:1], l[1:])
			} else {
				keeps(t, c, l[:1], []api.Interest{l[1], i})
			}
		}
	}
}

func TestP14_2WhatCanBe(t *testing.T) {
	for _, x := range []struct {
		i   api.Interest
		why api.Errno
	}{
		{buys(1, 0, 1), api.OK},
		{buys(1, api.Ticks-1, api.MaxQty), api.OK},
		{sells(math.MaxUint64, 0, api.MaxQty), api.OK},
		{market(1, api.Buy, 1), api.OK},
		{market(1, api.Sell, api.MaxQty), api.OK},
		{Interest(By(Buy(1, 1, 1), math.MaxUint32)), api.OK},
		{Interest(Order(1, 0, api.Limit, 5, 1)), api.ErrSide},
		{Interest(Order(1, 3, api.Limit, 5, 1)), api.ErrSide},
		{Interest(Order(1, math.MinInt, api.Limit, 5, 1)), api.ErrSide},
		{Interest(Order(1, 1<<32+1, api.Limit, 5, 1)), api.ErrSide},
		{Interest(Order(1, api.Buy, 0, 5, 1)), api.ErrType},
		{Interest(Order(1, api.Buy, -1, 5, 1)), api.ErrType},
		{Interest(Order(1, api.Buy, api.IOC, 5, 1)), api.ErrType},
		{Interest(Order(1, api.Sell, api.FOK, 5, 1)), api.ErrType},
		{Interest(Order(1, api.Sell, api.PostOnly, 5, 1)), api.ErrType},
		{Interest(Order(1, api.Sell, math.MaxInt, 5, 1)), api.ErrType},
		{buys(1, -1, 1), api.ErrPrice},
		{sells(1, api.Ticks, 1), api.ErrPrice},
		{sells(1, math.MinInt, 1), api.ErrPrice},
		{sells(1, 1<<32, 1), api.ErrPrice},
		{Interest(Order(1, api.Buy, api.Market, 1, 1)), api.ErrPrice},
		{Interest(Order(1, api.Sell, api.Market, -1, 1)), api.ErrPrice},
		{Interest(Order(1, api.Sell, api.Market, api.Ticks-1, 1)), api.ErrPrice},
		{buys(1, 5, 0), api.ErrQty},
		{buys(1, 5, api.MaxQty+1), api.ErrQty},
		{market(1, api.Buy, math.MaxUint64), api.ErrQty},
		{buys(0, 5, 1), api.ErrID},
	} {
		c := made(t, 100, 1)
		if why := c.Enter(x.i); why != x.why {
			t.Errorf("Enter(%+v): %v, wanted %v", x.i, why, x.why)
		}
		if x.why != api.OK {
			keeps(t, c, nil, nil)
			continue
		}
		// As it stands, whatever its fields are.
		Same(t, "Drop", drop(c, x.i.ID), found{x.i, true})
		keeps(t, c, nil, nil)
	}
}

func TestP14_2AnIDIsThereOnce(t *testing.T) {
	c := made(t, 100, 9)
	Same(t, "Enter", c.Enter(buys(5, 10, 1)), api.OK)
	Same(t, "Enter", c.Enter(buys(5, 11, 2)), api.ErrID)
	Same(t, "Enter", c.Enter(sells(5, 12, 2)), api.ErrID)
	Same(t, "Enter", c.Enter(market(5, api.Sell, 2)), api.ErrID)
	// IDs need not rise, and one that is gone may come again, on either side.
	Same(t, "Enter", c.Enter(sells(4, 12, 1)), api.OK)
	Same(t, "Drop", drop(c, 5), found{buys(5, 10, 1), true})
	Same(t, "Enter", c.Enter(sells(5, 12, 2)), api.OK)
	Same(t, "Enter", c.Enter(buys(5, 10, 1)), api.ErrID)
	keeps(t, c, nil, []api.Interest{sells(4, 12, 1), sells(5, 12, 2)})
	// Nor is one there that was traded whole.
	Same(t, "Enter", c.Enter(buys(6, 12, 3)), api.OK)
	uncross(c)
	keeps(t, c, nil, nil)
	Same(t, "Enter", c.Enter(buys(5, 10, 1)), api.OK)
}

func TestP14_2Drop(t *testing.T) {
	l := []api.Interest{market(9, api.Buy, 3), buys(1, 12, 1), buys(2, 11, 4), sells(3, 13, 2), sells(4, 14, 1)}
	c := callOf(t, 100, l...)
	for _, id := range []uint64{0, 5, 8, 10, math.MaxUint64} {
		Same(t, "Drop", drop(c, id), found{})
	}
	keeps(t, c, l[:3], l[3:])
	Same(t, "Drop", drop(c, 1), found{l[1], true})
	Same(t, "Drop", drop(c, 1), found{})
	keeps(t, c, []api.Interest{l[0], l[2]}, l[3:])
	Same(t, "Drop", drop(c, 3), found{l[3], true})
	keeps(t, c, []api.Interest{l[0], l[2]}, l[4:])
	// What was traded of an interest is gone from what Drop answers.
	Same(t, "Enter", c.Enter(sells(5, 20, 1)), api.OK)
	Same(t, "Uncross", quote(c).quote.Volume, 2)
	uncross(c)
	l[0].Qty = 1
	Same(t, "Drop", drop(c, 9), found{l[0], true})
	Same(t, "Drop", drop(c, 2), found{l[2], true})
	keeps(t, c, nil, nil)
}

func TestP14_2Room(t *testing.T) {
	for _, room := range []int{1, 2, 7, api.MaxOrders} {
		c := made(t, 100, room)
		for n := range room {
			i := buys(uint64(n)+1, n%7, 1)
			if n%2 == 1 {
				i = sells(uint64(n)+1, 20+n%7, 1)
			}
			Same(t, "Enter", c.Enter(i), api.OK)
			Same(t, "Len", c.Len(), n+1)
		}
		for _, i := range []api.Interest{buys(9999, 3, 1), sells(9999, 30, 1), market(9999, api.Buy, 1)} {
			Same(t, "Enter", c.Enter(i), api.ErrFull)
		}
		Same(t, "Len", c.Len(), room)
		Same(t, "Drop", drop(c, 1).there, true)
		Same(t, "Enter", c.Enter(sells(9999, 30, 1)), api.OK)
		Same(t, "Enter", c.Enter(sells(9998, 30, 1)), api.ErrFull)
	}
}

func TestP14_3Priority(t *testing.T) {
	c := callOf(t, 100,
		buys(11, 0, 1), buys(3, 5, 2), market(8, api.Buy, 1), buys(5, 7, 1), buys(2, 5, 1), market(7, api.Buy, 2), buys(6, 5, 3), buys(1, api.Ticks-1, 1),
		sells(21, api.Ticks-1, 1), sells(13, 5, 2), market(18, api.Sell, 1), sells(15, 3, 1), sells(12, 5, 1), market(17, api.Sell, 2), sells(16, 5, 3), sells(10, 0, 1))
	wantBuys := []api.Interest{market(8, api.Buy, 1), market(7, api.Buy, 2), buys(1, api.Ticks-1, 1), buys(5, 7, 1), buys(3, 5, 2), buys(2, 5, 1), buys(6, 5, 3), buys(11, 0, 1)}
	wantSells := []api.Interest{market(18, api.Sell, 1), market(17, api.Sell, 2), sells(10, 0, 1), sells(15, 3, 1), sells(13, 5, 2), sells(12, 5, 1), sells(16, 5, 3), sells(21, api.Ticks-1, 1)}
	keeps(t, c, wantBuys, wantSells)
	// One that is dropped and comes again was entered later than all others.
	Same(t, "Drop", drop(c, 3).there, true)
	Same(t, "Drop", drop(c, 18).there, true)
	Same(t, "Enter", c.Enter(wantBuys[4]), api.OK)
	Same(t, "Enter", c.Enter(wantSells[0]), api.OK)
	wantBuys[4], wantBuys[5], wantBuys[6] = wantBuys[5], wantBuys[6], wantBuys[4]
	wantSells[0], wantSells[1] = wantSells[1], wantSells[0]
	keeps(t, c, wantBuys, wantSells)
}

func TestP14_3NothingIsShared(t *testing.T) {
	l := []api.Interest{buys(1, 12, 3), buys(2, 11, 4), sells(3, 11, 2), sells(4, 12, 9)}
	c := callOf(t, 11, l...)
	odd := api.Interest{ID: 77}
	first, second := c.Interests(api.Buy), c.Interests(api.Buy)
	Spoil(first, odd)
	SameList(t, "the other answer", second, l[:2])
	Spoil(c.Interests(api.Sell), odd)
	keeps(t, c, l[:2], l[2:])
	// What was answered stays as it is, whatever comes.
	held := c.Interests(api.Sell)
	fills, _ := uncross(c)
	again := slices.Clone(fills)
	SameList(t, "what was answered", held, l[2:])
	Same(t, "Enter", c.Enter(buys(5, 12, 6)), api.OK)
	more, _ := uncross(c)
	Spoil(more, api.Fill{})
	SameList(t, "what was answered", fills, again)
	Spoil(fills, api.Fill{})
	keeps(t, c, []api.Interest{buys(2, 11, 4)}, []api.Interest{sells(4, 12, 2)})
}

func TestP14_4Curve(t *testing.T) {
	c := callOf(t, 100, buys(1, 102, 10), buys(2, 101, 10), sells(3, 99, 5), sells(4, 101, 10))
	for _, x := range []struct {
		price        int
		bought, sold uint64
	}{{math.MinInt, 20, 0}, {-1, 20, 0}, {0, 20, 0}, {98, 20, 0}, {99, 20, 5}, {100, 20, 5}, {101, 20, 15}, {102, 10, 15}, {103, 0, 15}, {api.Ticks, 0, 15}, {math.MaxInt, 0, 15}} {
		Same(t, "Curve", curve(c, x.price), [2]uint64{x.bought, x.sold})
	}
	c = callOf(t, 100, market(1, api.Buy, 3), market(2, api.Sell, 5), buys(3, 0, 1), sells(4, api.Ticks-1, 2))
	for _, x := range []struct {
		price        int
		bought, sold uint64
	}{{math.MinInt, 4, 5}, {0, 4, 5}, {1, 3, 5}, {api.Ticks - 2, 3, 5}, {api.Ticks - 1, 3, 7}, {api.Ticks, 3, 7}, {math.MaxInt, 3, 7}} {
		Same(t, "Curve", curve(c, x.price), [2]uint64{x.bought, x.sold})
	}
}

func TestP14_4Examples(t *testing.T) {
	for n, x := range []struct {
		reference int
		l         []api.Interest
		want      api.Quote
	}{
		{100, []api.Interest{buys(1, 102, 10), buys(2, 101, 10), sells(3, 99, 5), sells(4, 101, 10)}, api.Quote{Price: 101, Volume: 15, Surplus: 5, Side: api.Buy, Rule: api.ByVolume}},
		{100, []api.Interest{buys(1, 105, 10), sells(2, 95, 10)}, api.Quote{Price: 100, Volume: 10, Rule: api.ByReference}},
		{100, []api.Interest{buys(1, 105, 12), sells(2, 95, 10)}, api.Quote{Price: 105, Volume: 10, Surplus: 2, Side: api.Buy, Rule: api.ByPressure}},
		{100, []api.Interest{buys(1, 105, 10), buys(2, 104, 2), sells(3, 95, 10)}, api.Quote{Price: 105, Volume: 10, Rule: api.BySurplus}},
		{100, []api.Interest{market(1, api.Buy, 3), market(2, api.Sell, 5)}, api.Quote{Price: 100, Volume: 3, Surplus: 2, Side: api.Sell, Rule: api.ByVolume}},
		{100, []api.Interest{buys(1, 90, 1), sells(2, 91, 1)}, api.Quote{}},
		// The sells' pressure.
		{100, []api.Interest{buys(1, 105, 10), sells(2, 95, 12)}, api.Quote{Price: 95, Volume: 10, Surplus: 2, Side: api.Sell, Rule: api.ByPressure}},
		// The reference is the only candidate, also as a Limit's price.
		{100, []api.Interest{buys(1, 100, 3), sells(2, 100, 3)}, api.Quote{Price: 100, Volume: 3, Rule: api.ByVolume}},
		{100, []api.Interest{buys(1, 100, 3), buys(2, 100, 4), sells(3, 100, 3)}, api.Quote{Price: 100, Volume: 3, Surplus: 4, Side: api.Buy, Rule: api.ByVolume}},
		{0, []api.Interest{market(1, api.Buy, 3), market(2, api.Sell, 3)}, api.Quote{Volume: 3, Rule: api.ByVolume}},
		{api.Ticks - 1, []api.Interest{market(1, api.Buy, 3), market(2, api.Sell, 3)}, api.Quote{Price: api.Ticks - 1, Volume: 3, Rule: api.ByVolume}},
		// The same surplus on both sides: no pressure.
		{0, []api.Interest{buys(1, 12, 1), buys(2, 11, 1), sells(3, 11, 1), sells(4, 12, 1)}, api.Quote{Price: 11, Volume: 1, Surplus: 1, Side: api.Buy, Rule: api.ByReference}},
		{100, []api.Interest{buys(1, 12, 1), buys(2, 11, 1), sells(3, 11, 1), sells(4, 12, 1)}, api.Quote{Price: 12, Volume: 1, Surplus: 1, Side: api.Sell, Rule: api.ByReference}},
		// The reference between two that are as near: it is a candidate itself, and never worse than both.
		{15, []api.Interest{buys(1, 20, 1), buys(2, 10, 1), sells(3, 10, 1), sells(4, 20, 1)}, api.Quote{Price: 15, Volume: 1, Rule: api.BySurplus}},
		{15, []api.Interest{buys(1, 20, 1), buys(2, 15, 1), sells(3, 10, 1), sells(4, 20, 1)}, api.Quote{Price: 15, Volume: 1, Surplus: 1, Side: api.Buy, Rule: api.ByReference}},
		// A Market on one side alone.
		{100, []api.Interest{market(1, api.Buy, 3), sells(2, 120, 5)}, api.Quote{Price: 120, Volume: 3, Surplus: 2, Side: api.Sell, Rule: api.ByVolume}},
		{100, []api.Interest{market(1, api.Sell, 3), buys(2, 0, 5)}, api.Quote{Volume: 3, Surplus: 2, Side: api.Buy, Rule: api.ByVolume}},
		{100, []api.Interest{market(1, api.Buy, 3), buys(2, 120, 5)}, api.Quote{}},
		{100, nil, api.Quote{}},
	} {
		c := callOf(t, x.reference, x.l...)
		got := quote(c)
		m := &model{reference: x.reference, entered: x.l}
		if want := m.quote(); got != want {
			t.Errorf("%d: Quote: %+v, the model's %+v", n, got, want)
		}
		if want := (quoted{x.want, x.want != api.Quote{}}); got != want {
			t.Errorf("%d: Quote: %+v, wanted %+v", n, got, want)
		}
	}
}
