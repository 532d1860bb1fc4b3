package engines_test

import (
	"math"
	"slices"
	"testing"

	"bourse/api"
	. "bourse/sample"
)

func TestP9_3Example(t *testing.T) {
	each(t, func(t *testing.T, open opener) {
		e := open.of(t)
		Tells(t, e, Sell(1, 10, 5), Acked(Sell(1, 10, 5)))
		Tells(t, e, Sell(2, 10, 5), Acked(Sell(2, 10, 5)))
		Tells(t, e, Buy(3, 11, 7), Acked(Buy(3, 11, 7)), Traded(3, 1, api.Buy, 10, 5), Traded(3, 2, api.Buy, 10, 2))
		Same(t, "Best", Best(e, api.Sell), Top{Level: api.Level{Price: 10, Qty: 3, Count: 1}, There: true})
		Same(t, "Len", e.Len(), 1)
		iceberg := Peaked(Sell(4, 9, 10), 4)
		Tells(t, e, iceberg, Acked(iceberg))
		Same(t, "Find", Find(e, 4), Found{Order: api.Resting{ID: 4, Type: api.Limit, Price: 9, Visible: 4, Hidden: 6, Peak: 4}, Side: api.Sell, There: true})
		Tells(t, e, Buy(5, 10, 9), Acked(Buy(5, 10, 9)),
			Traded(5, 4, api.Buy, 9, 4), Refreshed(4, 9, 4), Traded(5, 4, api.Buy, 9, 4), Refreshed(4, 9, 2), Traded(5, 4, api.Buy, 9, 1))
		Same(t, "Find", Find(e, 4), Found{Order: api.Resting{ID: 4, Type: api.Limit, Price: 9, Visible: 1, Peak: 4}, Side: api.Sell, There: true})
		Refuses(t, e, Buy(5, 10, 9), api.ErrID)
		fok := Order(6, api.Buy, api.FOK, 10, 9)
		Tells(t, e, fok, Acked(fok), Ended(6, 9, api.ByFill))
		market := Order(7, api.Buy, api.Market, 0, 9)
		Tells(t, e, market, Acked(market), Traded(7, 4, api.Buy, 9, 1), Traded(7, 2, api.Buy, 10, 3), Ended(7, 5, api.ByRest))
		Same(t, "Len", e.Len(), 0)
	})
}

func TestP9_3CancelAndReplace(t *testing.T) {
	each(t, func(t *testing.T, open opener) {
		e := open.of(t, By(Peaked(Order(1, api.Buy, api.PostOnly, 5, 9), 2), 7), Buy(2, 5, 1), Sell(3, 8, 2))
		// Its place, its peak and its quantity are new; member, side and type are the order's.
		c := By(Peaked(Order(4, api.Buy, api.PostOnly, 5, 3), 3), 7)
		wrong := Peaked(Replace(1, 4, 5, 3), 3)
		wrong.Member, wrong.Side, wrong.Type = 9, api.Sell, api.Market
		Tells(t, e, wrong, Ended(1, 9, api.ByReplace), Acked(c))
		SameList(t, "Buys", e.Book().Buys, []api.Resting{{ID: 2, Type: api.Limit, Price: 5, Visible: 1}, {ID: 4, Member: 7, Type: api.PostOnly, Price: 5, Visible: 3, Peak: 3}})
		// One that lost its place to itself does not meet itself.
		Tells(t, e, Replace(2, 6, 9, 1), Ended(2, 1, api.ByReplace), Acked(Buy(6, 9, 1)), Traded(6, 3, api.Buy, 8, 1))
		noise := Cancel(4)
		noise.ID, noise.Side, noise.Qty, noise.Price = 99, 7, 1<<60, -4
		Tells(t, e, noise, Ended(4, 3, api.ByOwner))
		Refuses(t, e, noise, api.ErrTarget)
		Tells(t, e, Cancel(3), Ended(3, 1, api.ByOwner))
		Keeps(t, e, api.Book{Config: api.Config{Capacity: 4}, High: 6, Seq: e.Book().Seq})
	})
}

func TestP9_3CancelTellsWhatIsHidden(t *testing.T) {
	each(t, func(t *testing.T, open opener) {
		e := open.of(t, Peaked(Sell(1, 5, 100), 10), Order(2, api.Buy, api.Market, 0, 13))
		Tells(t, e, Cancel(1), Ended(1, 87, api.ByOwner))
		e = open.of(t, Peaked(Sell(1, 5, 100), 10), Order(2, api.Buy, api.Market, 0, 13))
		Tells(t, e, Replace(1, 3, 6, 4), Ended(1, 87, api.ByReplace), Acked(Sell(3, 6, 4)))
	})
}

func TestP9_3NewTakesAllFields(t *testing.T) {
	each(t, func(t *testing.T, open opener) {
		e := open.of(t)
		c := api.Command{Kind: api.New, ID: 9, Target: 4, Member: math.MaxUint32, Side: api.Sell, Type: api.PostOnly, Price: 17, Qty: 1 << 31, Peak: 1 << 30}
		Tells(t, e, c, Acked(c))
		Same(t, "Find", Find(e, 9), Found{Order: api.Resting{ID: 9, Member: math.MaxUint32, Type: api.PostOnly, Price: 17, Visible: 1 << 30, Hidden: 1 << 30, Peak: 1 << 30}, Side: api.Sell, There: true})
	})
}

func TestP9_3SeqAndHighAtTheirEnds(t *testing.T) {
	each(t, func(t *testing.T, open opener) {
		x := api.Book{Config: api.Config{Capacity: 4}, High: math.MaxUint64 - 1, Seq: math.MaxUint64 - 1}
		e := open.loaded(t, x)
		Same(t, "Seq", e.Do(Cancel(1))[0].Seq, math.MaxUint64)
		last := Sell(math.MaxUint64, 5, 1)
		Tells(t, e, last, Acked(last))
		Same(t, "Seq", e.Book().Seq, 0)
		Refuses(t, e, Buy(math.MaxUint64, 5, 1), api.ErrID)
		Refuses(t, e, Buy(1, 5, 1), api.ErrID)
		Tells(t, e, Cancel(math.MaxUint64), Ended(math.MaxUint64, 1, api.ByOwner))
		Same(t, "High", e.Book().High, math.MaxUint64)
		Same(t, "Seq", e.Book().Seq, 3)
	})
}

func TestP9_3OrdersOfOneLevel(t *testing.T) {
	each(t, func(t *testing.T, open opener) {
		// The first, the last and one between them go, in every order.
		for _, order := range [][]uint64{{1, 2, 3}, {1, 3, 2}, {2, 1, 3}, {2, 3, 1}, {3, 1, 2}, {3, 2, 1}} {
			e := open.of(t, Buy(1, 5, 1), Buy(2, 5, 2), Buy(3, 5, 4))
			x := e.Book()
			for _, id := range order {
				Tells(t, e, Cancel(id), Ended(id, 1<<(id-1), api.ByOwner))
				x.Buys = slices.DeleteFunc(x.Buys, func(r api.Resting) bool { return r.ID == id })
				x.Seq++
				is(t, e, x)
			}
			Tells(t, e, Buy(4, 5, 1), Acked(Buy(4, 5, 1)))
			SameList(t, "Depth", e.Depth(api.Buy, 9), []api.Level{{Price: 5, Qty: 1, Count: 1}})
		}
	})
}

func TestP9_3Meet(t *testing.T) {
	each(t, func(t *testing.T, open opener) {
		for meet, want := range [][]api.Event{
			{Traded(5, 4, api.Buy, 4, 1), Traded(5, 1, api.Buy, 5, 2), Refreshed(1, 5, 2), Traded(5, 2, api.Buy, 5, 3), Traded(5, 1, api.Buy, 5, 2), Refreshed(1, 5, 1), Traded(5, 1, api.Buy, 5, 1), Traded(5, 3, api.Buy, 6, 1)},
			{Traded(5, 4, api.Buy, 4, 1), Ended(5, 9, api.ByMeet)},
			{Traded(5, 4, api.Buy, 4, 1), Ended(1, 5, api.ByMeet), Traded(5, 2, api.Buy, 5, 3), Traded(5, 3, api.Buy, 6, 1), Ended(5, 5, api.ByRest)},
			{Traded(5, 4, api.Buy, 4, 1), Ended(1, 5, api.ByMeet), Ended(5, 9, api.ByMeet)},
		} {
			e := open.meeting(t, meet, By(Peaked(Sell(1, 5, 5), 2), 7), By(Sell(2, 5, 3), 8), Sell(3, 6, 1), Sell(4, 4, 1))
			c := By(Order(5, api.Buy, api.IOC, 6, 10), 7)
			Tells(t, e, c, append([]api.Event{Acked(c)}, want...)...)
			Same(t, "Len", e.Len(), []int{0, 3, 0, 2}[meet])
		}
	})
}

func TestP9_3MeetBehindATrade(t *testing.T) {
	each(t, func(t *testing.T, open opener) {
		for meet, want := range [][]api.Event{
			{Traded(3, 2, api.Sell, 5, 3)},
			{Ended(3, 3, api.ByMeet)},
			{Ended(2, 4, api.ByMeet)},
			{Ended(2, 4, api.ByMeet), Ended(3, 3, api.ByMeet)},
		} {
			e := open.meeting(t, meet, By(Buy(1, 6, 2), 8), By(Buy(2, 5, 4), 7))
			c := By(Sell(3, 5, 5), 7)
			Tells(t, e, c, append([]api.Event{Acked(c), Traded(3, 1, api.Sell, 6, 2)}, want...)...)
			// With MeetOldest what is left rests.
			Same(t, "rests", Find(e, 3).Order.Visible, []uint64{0, 0, 3, 0}[meet])
		}
	})
}

func TestP9_3NobodysOrdersTrade(t *testing.T) {
	each(t, func(t *testing.T, open opener) {
		for meet := range 4 {
			e := open.meeting(t, meet, Sell(1, 5, 1), By(Sell(2, 5, 1), 3))
			c := Buy(3, 5, 2)
			Tells(t, e, c, Acked(c), Traded(3, 1, api.Buy, 5, 1), Traded(3, 2, api.Buy, 5, 1))
		}
	})
}
