package rules_test

import (
	"math"
	"testing"

	"bourse/api"
)

func TestP9_3Example(t *testing.T) {
	b := of(t)
	tells(t, b, sell(1, 10, 5), acked(sell(1, 10, 5)))
	tells(t, b, sell(2, 10, 5), acked(sell(2, 10, 5)))
	tells(t, b, buy(3, 11, 7), acked(buy(3, 11, 7)), traded(3, 1, api.Buy, 10, 5), traded(3, 2, api.Buy, 10, 2))
	same(t, "Best", best(b, api.Sell), top{api.Level{Price: 10, Qty: 3, Count: 1}, true})
	same(t, "Len", b.Len(), 1)
	iceberg := peaked(sell(4, 9, 10), 4)
	tells(t, b, iceberg, acked(iceberg))
	same(t, "Find", find(b, 4), found{api.Resting{ID: 4, Type: api.Limit, Price: 9, Visible: 4, Hidden: 6, Peak: 4}, api.Sell, true})
	tells(t, b, buy(5, 10, 9), acked(buy(5, 10, 9)),
		traded(5, 4, api.Buy, 9, 4), refreshed(4, 9, 4), traded(5, 4, api.Buy, 9, 4), refreshed(4, 9, 2), traded(5, 4, api.Buy, 9, 1))
	same(t, "Find", find(b, 4), found{api.Resting{ID: 4, Type: api.Limit, Price: 9, Visible: 1, Peak: 4}, api.Sell, true})
	refuses(t, b, buy(5, 10, 9), api.ErrID)
	fok := order(6, api.Buy, api.FOK, 10, 9)
	tells(t, b, fok, acked(fok), ended(6, 9, api.ByFill))
	market := order(7, api.Buy, api.Market, 0, 9)
	tells(t, b, market, acked(market), traded(7, 4, api.Buy, 9, 1), traded(7, 2, api.Buy, 10, 3), ended(7, 5, api.ByRest))
	same(t, "Len", b.Len(), 0)
}

func TestP9_3CancelAndReplace(t *testing.T) {
	b := of(t, by(peaked(order(1, api.Buy, api.PostOnly, 5, 9), 2), 7), buy(2, 5, 1), sell(3, 8, 2))
	// Its place, its peak and its quantity are new; member, side and type are the order's.
	c := by(peaked(order(4, api.Buy, api.PostOnly, 5, 3), 3), 7)
	wrong := peaked(replace(1, 4, 5, 3), 3)
	wrong.Member, wrong.Side, wrong.Type = 9, api.Sell, api.Market
	tells(t, b, wrong, ended(1, 9, api.ByReplace), acked(c))
	sameList(t, "Buys", b.Book().Buys, []api.Resting{{ID: 2, Type: api.Limit, Price: 5, Visible: 1}, {ID: 4, Member: 7, Type: api.PostOnly, Price: 5, Visible: 3, Peak: 3}})
	// One that lost its place to itself does not meet itself.
	tells(t, b, replace(2, 6, 9, 1), ended(2, 1, api.ByReplace), acked(buy(6, 9, 1)), traded(6, 3, api.Buy, 8, 1))
	noise := cancel(4)
	noise.ID, noise.Side, noise.Qty, noise.Price = 99, 7, 1<<60, -4
	tells(t, b, noise, ended(4, 3, api.ByOwner))
	refuses(t, b, noise, api.ErrTarget)
	tells(t, b, cancel(3), ended(3, 1, api.ByOwner))
	sameBook(t, "Book", b.Book(), api.Book{Config: api.Config{Capacity: 4}, High: 6, Seq: b.Book().Seq})
}

func TestP9_3CancelTellsWhatIsHidden(t *testing.T) {
	b := of(t, peaked(sell(1, 5, 100), 10), order(2, api.Buy, api.Market, 0, 13))
	tells(t, b, cancel(1), ended(1, 87, api.ByOwner))
	b = of(t, peaked(sell(1, 5, 100), 10), order(2, api.Buy, api.Market, 0, 13))
	tells(t, b, replace(1, 3, 6, 4), ended(1, 87, api.ByReplace), acked(sell(3, 6, 4)))
}

func TestP9_3NewTakesAllFields(t *testing.T) {
	b := of(t)
	c := api.Command{Kind: api.New, ID: 9, Target: 4, Member: math.MaxUint32, Side: api.Sell, Type: api.PostOnly, Price: 17, Qty: 1 << 31, Peak: 1 << 30}
	tells(t, b, c, acked(c))
	same(t, "Find", find(b, 9), found{api.Resting{ID: 9, Member: math.MaxUint32, Type: api.PostOnly, Price: 17, Visible: 1 << 30, Hidden: 1 << 30, Peak: 1 << 30}, api.Sell, true})
}

func TestP9_3SeqAndHighAtTheirEnds(t *testing.T) {
	x := api.Book{Config: api.Config{Capacity: 4}, High: math.MaxUint64 - 1, Seq: math.MaxUint64 - 1}
	b := loaded(t, x)
	same(t, "Seq", b.Do(cancel(1))[0].Seq, math.MaxUint64)
	last := sell(math.MaxUint64, 5, 1)
	tells(t, b, last, acked(last))
	same(t, "Seq", b.Book().Seq, 0)
	refuses(t, b, buy(math.MaxUint64, 5, 1), api.ErrID)
	refuses(t, b, buy(1, 5, 1), api.ErrID)
	tells(t, b, cancel(math.MaxUint64), ended(math.MaxUint64, 1, api.ByOwner))
	same(t, "High", b.Book().High, math.MaxUint64)
	same(t, "Seq", b.Book().Seq, 3)
}

func TestP9_3AsTheModelTells(t *testing.T) {
	seen := map[[2]int]int{}
	for capacity := 1; capacity <= 12; capacity += 1 + capacity/4 {
		for meet := range 4 {
			mix := mixer(1000*capacity + meet)
			c := api.Config{Capacity: capacity, Meet: meet}
			b, want := made(t, c), &model{config: c}
			for step := range long / 4 {
				do := wild(&mix, want.high, 1+meet+mix.below(6))
				if do.ID > 1<<62 {
					do.ID = want.high
				}
				l := want.do(do)
				for _, e := range l {
					seen[[2]int{e.Kind, e.Reason + int(e.Code)}]++
				}
				sameList(t, "Do", b.Do(do), l)
				if step%8 == 0 {
					looked(t, b, want)
				}
			}
			looked(t, b, want)
		}
	}
	for _, e := range [][2]int{{1, 0}, {3, 0}, {5, 0}, {4, 1}, {4, 2}, {4, 3}, {4, 4}, {4, 5}, {2, 90}, {2, 91}, {2, 92}, {2, 93}, {2, 94}, {2, 95}, {2, 96}, {2, 97}, {2, 98}, {2, 99}} {
		if seen[e] < 20 {
			t.Errorf("the event %v was told %d times", e, seen[e])
		}
	}
}

func TestP9_3Meet(t *testing.T) {
	for meet, want := range [][]api.Event{
		{traded(4, 1, api.Buy, 5, 2), refreshed(1, 5, 2), traded(4, 2, api.Buy, 5, 3), traded(4, 1, api.Buy, 5, 2), refreshed(1, 5, 1), traded(4, 1, api.Buy, 5, 1), traded(4, 3, api.Buy, 6, 1)},
		{ended(4, 9, api.ByMeet)},
		{ended(1, 5, api.ByMeet), traded(4, 2, api.Buy, 5, 3), traded(4, 3, api.Buy, 6, 1), ended(4, 5, api.ByRest)},
		{ended(1, 5, api.ByMeet), ended(4, 9, api.ByMeet)},
	} {
		b := made(t, api.Config{Capacity: 9, Meet: meet})
		b.Do(by(peaked(sell(1, 5, 5), 2), 7))
		b.Do(by(sell(2, 5, 3), 8))
		b.Do(sell(3, 6, 1))
		c := by(order(4, api.Buy, api.IOC, 6, 9), 7)
		tells(t, b, c, append([]api.Event{acked(c)}, want...)...)
		same(t, "Len", b.Len(), []int{0, 3, 0, 2}[meet])
	}
}

func TestP9_3MeetBehindATrade(t *testing.T) {
	for meet, want := range [][]api.Event{
		{traded(3, 2, api.Sell, 5, 3)},
		{ended(3, 3, api.ByMeet)},
		{ended(2, 4, api.ByMeet)},
		{ended(2, 4, api.ByMeet), ended(3, 3, api.ByMeet)},
	} {
		b := made(t, api.Config{Capacity: 9, Meet: meet})
		b.Do(by(buy(1, 6, 2), 8))
		b.Do(by(buy(2, 5, 4), 7))
		c := by(sell(3, 5, 5), 7)
		tells(t, b, c, append([]api.Event{acked(c), traded(3, 1, api.Sell, 6, 2)}, want...)...)
		// With MeetOldest what is left rests.
		same(t, "rests", find(b, 3).order.Visible, []uint64{0, 0, 3, 0}[meet])
	}
}

func TestP9_3NobodysOrdersTrade(t *testing.T) {
	for meet := range 4 {
		b := made(t, api.Config{Capacity: 9, Meet: meet})
		b.Do(sell(1, 5, 1))
		b.Do(by(sell(2, 5, 1), 3))
		c := buy(3, 5, 2)
		tells(t, b, c, acked(c), traded(3, 1, api.Buy, 5, 1), traded(3, 2, api.Buy, 5, 1))
	}
}
