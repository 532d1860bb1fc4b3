package treebook_test

import (
	"math"
	"slices"
	"testing"

	"bourse/api"
	. "bourse/sample"
	"bourse/treebook"
)

func TestP10_1Configs(t *testing.T) {
	for _, capacity := range []int{math.MinInt, -1, 0, 1, 2, 4095, 4096, 4097, math.MaxInt} {
		for _, meet := range []int{math.MinInt, -1, 0, 1, 2, 3, 4, math.MaxInt} {
			c := api.Config{Capacity: capacity, Meet: meet}
			if capacity < 1 || capacity > 4096 || meet < 0 || meet > 3 {
				if b, why := treebook.New(c); b != nil || why != api.ErrArg {
					t.Errorf("New(%v): %v, %v", c, b, why)
				}
				continue
			}
			is(t, made(t, c), api.Book{Config: c})
		}
	}
}

func TestP10_1Load(t *testing.T) {
	b := of(t, 0, Buy(1, 3, 2), Sell(2, 5, 1))
	same(t, "Load", b.Load(fair()), api.OK)
	is(t, b, fair())
	for _, spoil := range []func(x *api.Book){
		func(x *api.Book) { x.Config = api.Config{Capacity: 3} },
		func(x *api.Book) { x.Config.Meet = 4 },
		func(x *api.Book) { x.High = 8 },
		func(x *api.Book) { x.Buys[0].ID = 0 },
		func(x *api.Book) { x.Buys[0].ID = 2 },
		func(x *api.Book) { x.Buys[0].Visible = 0 },
		func(x *api.Book) { x.Buys[1].Hidden = math.MaxUint64 - 1 },
		func(x *api.Book) { x.Buys[0].Price = 9 },
		func(x *api.Book) { x.Sells[0].Price = 13 },
		func(x *api.Book) { x.Sells[0].Price = 10 },
		func(x *api.Book) { x.Sells[1].Price = api.Ticks },
		func(x *api.Book) { x.Sells[1].Type = api.IOC },
	} {
		x := fair()
		spoil(&x)
		same(t, "Load of what can't be", b.Load(x), api.ErrBook)
		// The config is the one that it had.
		is(t, b, api.Book{Config: fair().Config})
		b.Do(Buy(1, 10, 1))
	}
	c := api.Config{Capacity: 1, Meet: api.MeetBoth}
	same(t, "Load of an empty book", b.Load(api.Book{Config: c, High: 5, Seq: math.MaxUint64}), api.OK)
	is(t, b, api.Book{Config: c, High: 5, Seq: math.MaxUint64})
	tells(t, b, Buy(6, 1, 1), Acked(Buy(6, 1, 1)))
	same(t, "Seq", b.Book().Seq, 0)
	refuses(t, b, Buy(7, 1, 1), api.ErrFull)
}

func TestP10_1Example(t *testing.T) {
	b := of(t, 0)
	tells(t, b, Sell(1, 10, 5), Acked(Sell(1, 10, 5)))
	tells(t, b, Sell(2, 10, 5), Acked(Sell(2, 10, 5)))
	tells(t, b, Buy(3, 11, 7), Acked(Buy(3, 11, 7)), Traded(3, 1, api.Buy, 10, 5), Traded(3, 2, api.Buy, 10, 2))
	sameList(t, "Depth", b.Depth(api.Sell, 9), []api.Level{{Price: 10, Qty: 3, Count: 1}})
	iceberg := Peaked(Sell(4, 9, 10), 4)
	tells(t, b, iceberg, Acked(iceberg))
	tells(t, b, Buy(5, 10, 9), Acked(Buy(5, 10, 9)),
		Traded(5, 4, api.Buy, 9, 4), Refreshed(4, 9, 4), Traded(5, 4, api.Buy, 9, 4), Refreshed(4, 9, 2), Traded(5, 4, api.Buy, 9, 1))
	sameList(t, "Depth", b.Depth(api.Sell, 9), []api.Level{{Price: 9, Qty: 1, Count: 1}, {Price: 10, Qty: 3, Count: 1}})
	refuses(t, b, Buy(5, 10, 9), api.ErrID)
	fok := Order(6, api.Buy, api.FOK, 10, 9)
	tells(t, b, fok, Acked(fok), Ended(6, 9, api.ByFill))
	market := Order(7, api.Buy, api.Market, 0, 9)
	tells(t, b, market, Acked(market), Traded(7, 4, api.Buy, 9, 1), Traded(7, 2, api.Buy, 10, 3), Ended(7, 5, api.ByRest))
	is(t, b, api.Book{Config: api.Config{Capacity: 9}, High: 7, Seq: b.Book().Seq})
}

func TestP10_1Refusals(t *testing.T) {
	b := made(t, api.Config{Capacity: 4})
	for _, c := range []api.Command{Buy(1, 5, 1), Buy(2, 5, 1), Sell(5, 9, 1), Order(6, api.Sell, api.PostOnly, 9, 1)} {
		b.Do(c)
	}
	// The book is full, and 6 is the greatest ID.
	refuses(t, b, api.Command{Kind: 7, ID: 1, Target: 99}, api.ErrKind)
	refuses(t, b, api.Command{ID: 8, Target: 1}, api.ErrKind)
	refuses(t, b, Cancel(0), api.ErrTarget)
	refuses(t, b, Cancel(math.MaxUint64), api.ErrTarget)
	refuses(t, b, api.Command{Kind: api.Cancel, ID: 8, Target: 3}, api.ErrTarget)
	refuses(t, b, Replace(99, 0, -1, 0), api.ErrTarget)
	refuses(t, b, Replace(1, 0, -1, 0), api.ErrPrice)
	refuses(t, b, Replace(1, 0, 5, 0), api.ErrQty)
	refuses(t, b, Peaked(Replace(1, 0, 5, 1), 2), api.ErrPeak)
	refuses(t, b, Replace(1, 0, 5, 1), api.ErrID)
	refuses(t, b, Replace(6, 6, 5, 1), api.ErrID)
	refuses(t, b, Replace(6, 7, 5, 1), api.ErrCross)
	refuses(t, b, api.Command{Kind: api.New, Target: 1}, api.ErrSide)
	refuses(t, b, Order(0, api.Buy, 9, -1, 0), api.ErrType)
	refuses(t, b, Order(0, api.Buy, api.Limit, -1, 0), api.ErrPrice)
	refuses(t, b, Order(7, api.Buy, api.Market, 1, 1), api.ErrPrice)
	refuses(t, b, Order(0, api.Buy, api.Limit, 1, 0), api.ErrQty)
	refuses(t, b, Peaked(Order(0, api.Buy, api.IOC, 1, 1), 1), api.ErrPeak)
	refuses(t, b, Buy(6, 1, 1), api.ErrID)
	refuses(t, b, Buy(7, 9, 1), api.ErrFull)
	refuses(t, b, Order(7, api.Buy, api.PostOnly, 9, 1), api.ErrFull)
	b.Do(Cancel(2))
	refuses(t, b, Order(7, api.Buy, api.PostOnly, 9, 1), api.ErrCross)
	refuses(t, b, Order(7, api.Sell, api.PostOnly, 5, 1), api.ErrCross)
	c := Order(7, api.Buy, api.PostOnly, 8, 1)
	tells(t, b, c, Acked(c))
	// A full book takes what does not rest, and a Replace.
	c = Order(8, api.Buy, api.IOC, 8, 1)
	tells(t, b, c, Acked(c), Ended(8, 1, api.ByRest))
	tells(t, b, Replace(1, 9, 6, 4), Ended(1, 1, api.ByReplace), Acked(Buy(9, 6, 4)))
}

func TestP10_1ReplaceIsOfTheOrdersKind(t *testing.T) {
	b := of(t, 0, By(Peaked(Order(1, api.Buy, api.PostOnly, 5, 9), 2), 7), Buy(2, 5, 1), Sell(3, 8, 2))
	c := Peaked(Replace(1, 4, 5, 3), 3)
	c.Member, c.Side, c.Type = 9, api.Sell, api.Market
	tells(t, b, c, Ended(1, 9, api.ByReplace), Acked(By(Peaked(Order(4, api.Buy, api.PostOnly, 5, 3), 3), 7)))
	sameList(t, "Buys", b.Book().Buys, []api.Resting{{ID: 2, Type: api.Limit, Price: 5, Visible: 1}, {ID: 4, Member: 7, Type: api.PostOnly, Price: 5, Visible: 3, Peak: 3}})
	// A New's Target is not looked at.
	c = Sell(5, 9, 1)
	c.Target = 4
	tells(t, b, c, Acked(c))
	tells(t, b, Replace(2, 6, 9, 3), Ended(2, 1, api.ByReplace), Acked(Buy(6, 9, 3)), Traded(6, 3, api.Buy, 8, 2), Traded(6, 5, api.Buy, 9, 1))
}

func TestP10_1OrdersOfOneLevel(t *testing.T) {
	// The first, the last and one between them go, in every order.
	for _, order := range [][]uint64{{1, 2, 3}, {1, 3, 2}, {2, 1, 3}, {2, 3, 1}, {3, 1, 2}, {3, 2, 1}} {
		b := of(t, 0, Buy(1, 5, 1), Buy(2, 5, 2), Buy(3, 5, 4))
		left, qty := []uint64{1, 2, 3}, uint64(7)
		for _, id := range order {
			tells(t, b, Cancel(id), Ended(id, 1<<(id-1), api.ByOwner))
			left = slices.DeleteFunc(left, func(n uint64) bool { return n == id })
			qty -= 1 << (id - 1)
			var ids []uint64
			for _, r := range b.Book().Buys {
				ids = append(ids, r.ID)
			}
			sameList(t, "Buys", ids, left)
			if len(left) > 0 {
				sameList(t, "Depth", b.Depth(api.Buy, 9), []api.Level{{Price: 5, Qty: qty, Count: len(left)}})
			}
		}
		same(t, "Levels", levels(b), [2]int{})
		tells(t, b, Buy(4, 5, 1), Acked(Buy(4, 5, 1)))
		sameList(t, "Depth", b.Depth(api.Buy, 9), []api.Level{{Price: 5, Qty: 1, Count: 1}})
	}
}

func TestP10_1Meet(t *testing.T) {
	for meet, want := range [][]api.Event{
		{Traded(5, 4, api.Buy, 4, 1), Traded(5, 1, api.Buy, 5, 2), Refreshed(1, 5, 2), Traded(5, 2, api.Buy, 5, 3), Traded(5, 1, api.Buy, 5, 2), Refreshed(1, 5, 1), Traded(5, 1, api.Buy, 5, 1), Traded(5, 3, api.Buy, 6, 1)},
		{Traded(5, 4, api.Buy, 4, 1), Ended(5, 9, api.ByMeet)},
		{Traded(5, 4, api.Buy, 4, 1), Ended(1, 5, api.ByMeet), Traded(5, 2, api.Buy, 5, 3), Traded(5, 3, api.Buy, 6, 1), Ended(5, 5, api.ByRest)},
		{Traded(5, 4, api.Buy, 4, 1), Ended(1, 5, api.ByMeet), Ended(5, 9, api.ByMeet)},
	} {
		b := of(t, meet, By(Peaked(Sell(1, 5, 5), 2), 7), By(Sell(2, 5, 3), 8), Sell(3, 6, 1), Sell(4, 4, 1))
		c := By(Order(5, api.Buy, api.IOC, 6, 10), 7)
		tells(t, b, c, append([]api.Event{Acked(c)}, want...)...)
		same(t, "Levels", levels(b), [2]int{0, []int{0, 2, 0, 2}[meet]})
		// Nobody's orders trade with one another.
		b = of(t, meet, Sell(1, 5, 1))
		tells(t, b, Buy(2, 5, 1), Acked(Buy(2, 5, 1)), Traded(2, 1, api.Buy, 5, 1))
	}
}

func TestP10_1FillAmongItsOwn(t *testing.T) {
	// 2 is of the member that comes: what stands behind it counts with MeetOldest alone, and what is hidden ahead of it comes behind it.
	for meet, could := range []uint64{15, 5, 12, 5} {
		for qty := uint64(1); qty <= 16; qty++ {
			b := of(t, meet, Peaked(Sell(1, 5, 6), 2), By(Sell(2, 5, 3), 7), Sell(3, 6, 3), Peaked(Sell(4, 4, 3), 1))
			before := b.Book()
			c := By(Order(5, api.Buy, api.FOK, 6, qty), 7)
			if qty > could {
				tells(t, b, c, Acked(c), Ended(5, qty, api.ByFill))
				sameList(t, "Sells", b.Book().Sells, before.Sells)
				continue
			}
			var sum uint64
			for _, e := range b.Do(c) {
				if e.Kind == api.EvTrade {
					sum += e.Qty
				}
			}
			same(t, "what an FOK trades", sum, qty)
		}
	}
}

func TestP10_1GreatestQuantities(t *testing.T) {
	const most = 1<<32 - 1
	b := made(t, api.Config{Capacity: 4096})
	for id := range uint64(4096) {
		b.Do(Peaked(Sell(id+1, api.Ticks-1, most), most))
	}
	sameList(t, "Depth", b.Depth(api.Sell, 1), []api.Level{{Price: api.Ticks - 1, Qty: 4096 * most, Count: 4096}})
	refuses(t, b, Buy(5000, 0, 1), api.ErrFull)
	c := Order(5000, api.Buy, api.FOK, api.Ticks-1, most)
	tells(t, b, c, Acked(c), Traded(5000, 1, api.Buy, api.Ticks-1, most))
	tells(t, b, Buy(5001, 0, most), Acked(Buy(5001, 0, most)))
}

func TestP10_1ManyShows(t *testing.T) {
	// A level of many icebergs, each shown as often as may be: they take turns.
	const icebergs, shows = 1000, 256
	b := made(t, api.Config{Capacity: icebergs})
	for id := range uint64(icebergs) {
		b.Do(Peaked(Sell(id+1, 7, shows), 1))
	}
	l := b.Do(Order(5000, api.Buy, api.FOK, 7, icebergs*shows))
	trades, refreshes := 0, 0
	for _, e := range l {
		switch e.Kind {
		case api.EvTrade:
			if e.Qty != 1 || e.Other != uint64(trades%icebergs+1) {
				t.Fatalf("trade %d: %+v", trades, e)
			}
			trades++
		case api.EvRefresh:
			refreshes++
		}
	}
	same(t, "trades", trades, icebergs*shows)
	same(t, "refreshes", refreshes, icebergs*(shows-1))
	same(t, "Len", b.Len(), 0)
}

func TestP10_1NumbersAtTheirEnds(t *testing.T) {
	b := loaded(t, api.Book{Config: api.Config{Capacity: 4}, High: math.MaxUint64 - 1, Seq: math.MaxUint64 - 1})
	same(t, "Seq", b.Do(Cancel(1))[0].Seq, math.MaxUint64)
	last := Sell(math.MaxUint64, api.Ticks-1, 1)
	tells(t, b, last, Acked(last))
	same(t, "Seq", b.Book().Seq, 0)
	refuses(t, b, Buy(math.MaxUint64, 5, 1), api.ErrID)
	refuses(t, b, Buy(1, 5, 1), api.ErrID)
	tells(t, b, Cancel(math.MaxUint64), Ended(math.MaxUint64, 1, api.ByOwner))
}

func TestP10_1PricesAtTheirEnds(t *testing.T) {
	b := of(t, 0, Buy(1, 0, 1), Sell(2, api.Ticks-1, 1))
	same(t, "Levels", levels(b), [2]int{1, 1})
	c := Order(3, api.Sell, api.Market, 0, 2)
	tells(t, b, c, Acked(c), Traded(3, 1, api.Sell, 0, 1), Ended(3, 1, api.ByRest))
	c = Order(4, api.Buy, api.Market, 0, 2)
	tells(t, b, c, Acked(c), Traded(4, 2, api.Buy, api.Ticks-1, 1), Ended(4, 1, api.ByRest))
}

func TestP10_1BookThatNewDidNotMake(t *testing.T) {
	// What it answers is open, but no call may panic.
	var b treebook.Book
	mix := Mixer(100)
	for range 500 {
		b.Do(Wild(&mix, 5, 5))
	}
	b.Book()
	b.Best(1)
	b.Depth(2, 9)
	b.Find(1)
	b.Len()
	b.Levels()
	b.Heights()
	b.Load(api.Book{})
	same(t, "Load", b.Load(fair()), api.OK)
	is(t, &b, fair())
}

func TestP10_2Levels(t *testing.T) {
	b := made(t, api.Config{Capacity: 9})
	b.Do(Sell(1, 10, 5))
	b.Do(Sell(2, 12, 5))
	b.Do(Sell(3, 10, 1))
	same(t, "Levels", levels(b), [2]int{0, 2})
	same(t, "Heights", heights(b), [2]int{0, 2})
	sameList(t, "Depth", b.Depth(api.Sell, 9), []api.Level{{Price: 10, Qty: 6, Count: 2}, {Price: 12, Qty: 5, Count: 1}})
	c := Order(4, api.Buy, api.Market, 0, 6)
	tells(t, b, c, Acked(c), Traded(4, 1, api.Buy, 10, 5), Traded(4, 3, api.Buy, 10, 1))
	same(t, "Levels", levels(b), [2]int{0, 1})
	b.Do(Buy(5, 3, 1))
	b.Do(Buy(6, 3, 1))
	b.Do(Buy(7, 4, 1))
	same(t, "Levels", levels(b), [2]int{2, 1})
	b.Do(Cancel(5))
	same(t, "Levels", levels(b), [2]int{2, 1})
	b.Do(Cancel(6))
	same(t, "Levels", levels(b), [2]int{1, 1})
	b.Do(Replace(7, 8, 11, 1))
	same(t, "Levels", levels(b), [2]int{1, 1})
	same(t, "Load", b.Load(fair()), api.OK)
	same(t, "Levels", levels(b), [2]int{1, 2})
	same(t, "Load", b.Load(api.Book{}), api.ErrBook)
	same(t, "Levels", levels(b), [2]int{})
	same(t, "Heights", heights(b), [2]int{})
}

func TestP10_3HeightsOfManyPrices(t *testing.T) {
	// Prices that rise, that fall, and in no order; they go again from one end, from the other one, and in no order.
	const most = 4096
	for _, comes := range []func(i int) int{func(i int) int { return i }, func(i int) int { return most - 1 - i }, func(i int) int { return i * 1597 % most }} {
		for _, goes := range []func(i int) int{func(i int) int { return i }, func(i int) int { return most - 1 - i }, func(i int) int { return i * 2531 % most }} {
			b := made(t, api.Config{Capacity: most})
			for i := range most {
				b.Do(Order(uint64(i+1), api.Buy+i%2, api.Limit, comes(i)/2+i%2*most, 1))
				buys, sells := b.Levels()
				same(t, "Levels", buys+sells, i+1)
				flat(t, heights(b)[0], buys)
				flat(t, heights(b)[1], sells)
			}
			shaped(t, b)
			for i := range most {
				b.Do(Cancel(uint64(goes(i) + 1)))
				buys, sells := b.Levels()
				same(t, "Levels", buys+sells, most-1-i)
				flat(t, heights(b)[0], buys)
				flat(t, heights(b)[1], sells)
			}
			same(t, "Heights", heights(b), [2]int{})
		}
	}
}

func TestP10_3HeightsOfFewPrices(t *testing.T) {
	b := of(t, 0)
	for i, want := range []int{1, 2, 2, 3} {
		b.Do(Buy(uint64(i+1), 10+i, 1))
		same(t, "Heights", heights(b), [2]int{want, 0})
	}
	// An order more at a price that is there does not make it higher.
	b.Do(Buy(5, 10, 1))
	same(t, "Heights", heights(b), [2]int{3, 0})
	same(t, "Levels", levels(b), [2]int{4, 0})
}
