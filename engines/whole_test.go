package engines_test

import (
	"testing"

	"bourse/api"
	. "bourse/sample"
)

func TestP9_5NeverCrossed(t *testing.T) {
	each(t, func(t *testing.T, open opener) {
		// What is left of an order rests at its own price only where nothing is left that it would meet.
		e := open.of(t, Sell(1, 5, 1), Sell(2, 6, 1), Buy(3, 5, 4))
		Same(t, "Best", Best(e, api.Buy), Top{Level: api.Level{Price: 5, Qty: 3, Count: 1}, There: true})
		Same(t, "Best", Best(e, api.Sell), Top{Level: api.Level{Price: 6, Qty: 1, Count: 1}, There: true})
		Tells(t, e, Sell(4, 0, 5), Acked(Sell(4, 0, 5)), Traded(4, 3, api.Sell, 5, 3))
		SameList(t, "Depth", e.Depth(api.Sell, 9), []api.Level{{Price: 0, Qty: 2, Count: 1}, {Price: 6, Qty: 1, Count: 1}})
		Same(t, "Best", Best(e, api.Buy), Top{})
	})
}

func TestP9_6GreatestQuantities(t *testing.T) {
	each(t, func(t *testing.T, open opener) {
		const most = 1<<32 - 1
		e := open.of(t, Peaked(Sell(1, 9, most), 1<<24), Sell(2, 9, most))
		// Behind its first peak the plain order stands ahead of it.
		c := Order(3, api.Buy, api.Market, 0, 1<<24+most)
		Refuses(t, e, c, api.ErrQty)
		c.Qty = 1 << 24
		Tells(t, e, c, Acked(c), Traded(3, 1, api.Buy, 9, 1<<24), Refreshed(1, 9, 1<<24))
		e.Do(Cancel(2))
		c = Order(4, api.Buy, api.FOK, 9, most-1<<24)
		want := []api.Event{Acked(c)}
		for show := 2; show <= 256; show++ {
			qty := uint64(1 << 24)
			if show == 256 {
				qty--
			}
			if show > 2 {
				want = append(want, Refreshed(1, 9, qty))
			}
			want = append(want, Traded(4, 1, api.Buy, 9, qty))
		}
		Tells(t, e, c, want...)
		Same(t, "Len", e.Len(), 0)
	})
}

func TestP9_6FullBook(t *testing.T) {
	each(t, func(t *testing.T, open opener) {
		const most = 1<<32 - 1
		e := open.made(t, api.Config{Capacity: 4096})
		for id := range uint64(4096) {
			e.Do(Sell(id+1, api.Ticks-1, most))
		}
		Refuses(t, e, Buy(5000, 0, 1), api.ErrFull)
		Same(t, "Best", Best(e, api.Sell), Top{Level: api.Level{Price: api.Ticks - 1, Qty: 4096 * most, Count: 4096}, There: true})
		wholly(t, e)
		c := Order(5000, api.Buy, api.IOC, api.Ticks-1, most)
		Tells(t, e, c, Acked(c), Traded(5000, 1, api.Buy, api.Ticks-1, most))
		Tells(t, e, Buy(5001, 0, 1), Acked(Buy(5001, 0, 1)))
	})
}

func TestP9_6ManyShows(t *testing.T) {
	each(t, func(t *testing.T, open opener) {
		// Icebergs at one price, each shown as often as may be: they take turns.
		const icebergs, shows = 500, 256
		e := open.made(t, api.Config{Capacity: icebergs})
		for id := range uint64(icebergs) {
			e.Do(Peaked(Sell(id+1, 7, shows), 1))
		}
		l := e.Do(Order(1000, api.Buy, api.FOK, 7, icebergs*shows))
		var others []uint64
		refreshes := 0
		for _, event := range l {
			switch event.Kind {
			case api.EvTrade:
				Same(t, "Qty", event.Qty, 1)
				others = append(others, event.Other)
			case api.EvRefresh:
				refreshes++
			}
		}
		Same(t, "trades", len(others), icebergs*shows)
		Same(t, "refreshes", refreshes, icebergs*(shows-1))
		for i, id := range others {
			Same(t, "whose turn it is", id, uint64(i%icebergs+1))
		}
		Same(t, "Len", e.Len(), 0)
	})
}

func TestP9_7PriceAndTime(t *testing.T) {
	each(t, func(t *testing.T, open opener) {
		e := open.meeting(t, 0, Buy(1, 5, 2), Buy(2, 6, 2), Buy(3, 5, 2), Buy(4, 6, 2), Buy(5, 4, 2))
		c := Sell(6, 5, 9)
		Tells(t, e, c, Acked(c), Traded(6, 2, api.Sell, 6, 2), Traded(6, 4, api.Sell, 6, 2), Traded(6, 1, api.Sell, 5, 2), Traded(6, 3, api.Sell, 5, 2))
		SameList(t, "Depth", e.Depth(api.Sell, 9), []api.Level{{Price: 5, Qty: 1, Count: 1}})
		// One that traded in part keeps its place.
		e = open.of(t, Sell(1, 5, 3), Sell(2, 5, 3))
		e.Do(Order(3, api.Buy, api.IOC, 5, 1))
		c = Order(4, api.Buy, api.IOC, 5, 3)
		Tells(t, e, c, Acked(c), Traded(4, 1, api.Buy, 5, 2), Traded(4, 2, api.Buy, 5, 1))
	})
}

func TestP9_7ARefreshLosesItsPlace(t *testing.T) {
	each(t, func(t *testing.T, open opener) {
		e := open.of(t, Peaked(Sell(1, 5, 5), 2), Sell(2, 5, 2), Sell(3, 6, 1))
		// It is refreshed as soon as it shows nothing, also where nothing is left of the one that comes.
		c := Buy(4, 5, 2)
		Tells(t, e, c, Acked(c), Traded(4, 1, api.Buy, 5, 2), Refreshed(1, 5, 2))
		SameList(t, "Sells", e.Book().Sells, []api.Resting{{ID: 2, Type: 1, Price: 5, Visible: 2}, {ID: 1, Type: 1, Price: 5, Visible: 2, Hidden: 1, Peak: 2}, {ID: 3, Type: 1, Price: 6, Visible: 1}})
		c = Buy(5, 6, 5)
		Tells(t, e, c, Acked(c), Traded(5, 2, api.Buy, 5, 2), Traded(5, 1, api.Buy, 5, 2), Refreshed(1, 5, 1), Traded(5, 1, api.Buy, 5, 1))
	})
}

func TestP9_8Fill(t *testing.T) {
	each(t, func(t *testing.T, open opener) {
		sells := []api.Command{Peaked(Sell(1, 5, 6), 2), Sell(2, 5, 3), Sell(3, 6, 1)}
		for qty := uint64(1); qty <= 12; qty++ {
			for price := 4; price <= 7; price++ {
				e := open.of(t, sells...)
				before := e.Book()
				c := Order(4, api.Buy, api.FOK, price, qty)
				l := e.Do(c)
				could := map[int]uint64{4: 0, 5: 9, 6: 10, 7: 10}[price]
				if qty > could {
					SameList(t, "Do", l, []api.Event{{Seq: 4, Kind: api.EvAck, ID: 4, Side: 1, Type: 4, Price: price, Qty: qty}, {Seq: 5, Kind: api.EvCancel, ID: 4, Qty: qty, Reason: api.ByFill}})
					before.High, before.Seq = 4, 5
					Keeps(t, e, before)
					continue
				}
				// What it tells is what an IOC does, but for its type.
				ioc := open.of(t, sells...)
				want := ioc.Do(Order(4, api.Buy, api.IOC, price, qty))
				want[0].Type = api.FOK
				SameList(t, "Do", l, want)
				Keeps(t, e, ioc.Book())
			}
		}
	})
}

func TestP9_8FillAmongItsOwn(t *testing.T) {
	each(t, func(t *testing.T, open opener) {
		// 2 is of the member that comes: what stands behind it counts with MeetOldest alone, and what is hidden ahead of it comes behind it.
		for meet, could := range []uint64{15, 5, 12, 5} {
			for qty := uint64(1); qty <= 16; qty++ {
				e := open.meeting(t, meet, Peaked(Sell(1, 5, 6), 2), By(Sell(2, 5, 3), 7), Sell(3, 6, 3), Peaked(Sell(4, 4, 3), 1))
				before := e.Book()
				c := By(Order(5, api.Buy, api.FOK, 6, qty), 7)
				if qty > could {
					Tells(t, e, c, Acked(c), Ended(5, qty, api.ByFill))
					SameList(t, "Sells", e.Book().Sells, before.Sells)
					continue
				}
				var sum uint64
				for _, event := range e.Do(c) {
					if event.Kind == api.EvTrade {
						sum += event.Qty
					}
				}
				Same(t, "what an FOK trades", sum, qty)
			}
		}
	})
}

func TestP9_8MarketsAndIOCsNeverRest(t *testing.T) {
	each(t, func(t *testing.T, open opener) {
		e := open.of(t, Sell(1, 5, 1), Sell(2, api.Ticks-1, 1))
		c := Order(3, api.Buy, api.IOC, 6, 4)
		Tells(t, e, c, Acked(c), Traded(3, 1, api.Buy, 5, 1), Ended(3, 3, api.ByRest))
		c = Order(4, api.Buy, api.Market, 0, 4)
		Tells(t, e, c, Acked(c), Traded(4, 2, api.Buy, api.Ticks-1, 1), Ended(4, 3, api.ByRest))
		c = Order(5, api.Sell, api.Market, 0, 4)
		Tells(t, e, c, Acked(c), Ended(5, 4, api.ByRest))
		e.Do(Buy(6, 0, 1))
		c = Order(7, api.Sell, api.Market, 0, 1)
		Tells(t, e, c, Acked(c), Traded(7, 6, api.Sell, 0, 1))
		Same(t, "Len", e.Len(), 0)
	})
}

func TestP9_10Numbers(t *testing.T) {
	each(t, func(t *testing.T, open opener) {
		e := open.of(t)
		var seq, high uint64
		for _, c := range []api.Command{Sell(3, 5, 2), Cancel(9), Buy(3, 1, 1), Buy(5, 6, 1), Replace(3, 6, 7, 1), {}, Order(7, api.Sell, api.FOK, 1, 1), Cancel(6), Buy(9, 1, 0), Replace(6, 12, 1, 1)} {
			for _, event := range e.Do(c) {
				seq++
				Same(t, "Seq", event.Seq, seq)
				if event.Kind == api.EvAck {
					high = max(high, event.ID)
				}
			}
			Same(t, "High", e.Book().High, high)
			Same(t, "Seq", e.Book().Seq, seq)
		}
		Same(t, "High", high, 7)
	})
}
