package rules_test

import (
	"math"
	"testing"

	"bourse/api"
	. "bourse/sample"
)

func TestP9_3Example(t *testing.T) {
	b := of(t)
	tells(t, b, Sell(1, 10, 5), Acked(Sell(1, 10, 5)))
	tells(t, b, Sell(2, 10, 5), Acked(Sell(2, 10, 5)))
	tells(t, b, Buy(3, 11, 7), Acked(Buy(3, 11, 7)), Traded(3, 1, api.Buy, 10, 5), Traded(3, 2, api.Buy, 10, 2))
	same(t, "Best", best(b, api.Sell), top{api.Level{Price: 10, Qty: 3, Count: 1}, true})
	same(t, "Len", b.Len(), 1)
	iceberg := Peaked(Sell(4, 9, 10), 4)
	tells(t, b, iceberg, Acked(iceberg))
	same(t, "Find", find(b, 4), found{api.Resting{ID: 4, Type: api.Limit, Price: 9, Visible: 4, Hidden: 6, Peak: 4}, api.Sell, true})
	tells(t, b, Buy(5, 10, 9), Acked(Buy(5, 10, 9)),
		Traded(5, 4, api.Buy, 9, 4), Refreshed(4, 9, 4), Traded(5, 4, api.Buy, 9, 4), Refreshed(4, 9, 2), Traded(5, 4, api.Buy, 9, 1))
	same(t, "Find", find(b, 4), found{api.Resting{ID: 4, Type: api.Limit, Price: 9, Visible: 1, Peak: 4}, api.Sell, true})
	refuses(t, b, Buy(5, 10, 9), api.ErrID)
	fok := Order(6, api.Buy, api.FOK, 10, 9)
	tells(t, b, fok, Acked(fok), Ended(6, 9, api.ByFill))
	market := Order(7, api.Buy, api.Market, 0, 9)
	tells(t, b, market, Acked(market), Traded(7, 4, api.Buy, 9, 1), Traded(7, 2, api.Buy, 10, 3), Ended(7, 5, api.ByRest))
	same(t, "Len", b.Len(), 0)
}

func TestP9_3CancelAndReplace(t *testing.T) {
	b := of(t, By(Peaked(Order(1, api.Buy, api.PostOnly, 5, 9), 2), 7), Buy(2, 5, 1), Sell(3, 8, 2))
	// Its place, its peak and its quantity are new; member, side and type are the order's.
	c := By(Peaked(Order(4, api.Buy, api.PostOnly, 5, 3), 3), 7)
	wrong := Peaked(Replace(1, 4, 5, 3), 3)
	wrong.Member, wrong.Side, wrong.Type = 9, api.Sell, api.Market
	tells(t, b, wrong, Ended(1, 9, api.ByReplace), Acked(c))
	sameList(t, "Buys", b.Book().Buys, []api.Resting{{ID: 2, Type: api.Limit, Price: 5, Visible: 1}, {ID: 4, Member: 7, Type: api.PostOnly, Price: 5, Visible: 3, Peak: 3}})
	// One that lost its place to itself does not meet itself.
	tells(t, b, Replace(2, 6, 9, 1), Ended(2, 1, api.ByReplace), Acked(Buy(6, 9, 1)), Traded(6, 3, api.Buy, 8, 1))
	noise := Cancel(4)
	noise.ID, noise.Side, noise.Qty, noise.Price = 99, 7, 1<<60, -4
	tells(t, b, noise, Ended(4, 3, api.ByOwner))
	refuses(t, b, noise, api.ErrTarget)
	tells(t, b, Cancel(3), Ended(3, 1, api.ByOwner))
	sameBook(t, "Book", b.Book(), api.Book{Config: api.Config{Capacity: 4}, High: 6, Seq: b.Book().Seq})
}

func TestP9_3CancelTellsWhatIsHidden(t *testing.T) {
	b := of(t, Peaked(Sell(1, 5, 100), 10), Order(2, api.Buy, api.Market, 0, 13))
	tells(t, b, Cancel(1), Ended(1, 87, api.ByOwner))
	b = of(t, Peaked(Sell(1, 5, 100), 10), Order(2, api.Buy, api.Market, 0, 13))
	tells(t, b, Replace(1, 3, 6, 4), Ended(1, 87, api.ByReplace), Acked(Sell(3, 6, 4)))
}

func TestP9_3NewTakesAllFields(t *testing.T) {
	b := of(t)
	c := api.Command{Kind: api.New, ID: 9, Target: 4, Member: math.MaxUint32, Side: api.Sell, Type: api.PostOnly, Price: 17, Qty: 1 << 31, Peak: 1 << 30}
	tells(t, b, c, Acked(c))
	same(t, "Find", find(b, 9), found{api.Resting{ID: 9, Member: math.MaxUint32, Type: api.PostOnly, Price: 17, Visible: 1 << 30, Hidden: 1 << 30, Peak: 1 << 30}, api.Sell, true})
}

func TestP9_3SeqAndHighAtTheirEnds(t *testing.T) {
	x := api.Book{Config: api.Config{Capacity: 4}, High: math.MaxUint64 - 1, Seq: math.MaxUint64 - 1}
	b := loaded(t, x)
	same(t, "Seq", b.Do(Cancel(1))[0].Seq, math.MaxUint64)
	last := Sell(math.MaxUint64, 5, 1)
	tells(t, b, last, Acked(last))
	same(t, "Seq", b.Book().Seq, 0)
	refuses(t, b, Buy(math.MaxUint64, 5, 1), api.ErrID)
	refuses(t, b, Buy(1, 5, 1), api.ErrID)
	tells(t, b, Cancel(math.MaxUint64), Ended(math.MaxUint64, 1, api.ByOwner))
	same(t, "High", b.Book().High, math.MaxUint64)
	same(t, "Seq", b.Book().Seq, 3)
}

func TestP9_3AsTheModelTells(t *testing.T) {
	seen := map[[2]int]int{}
	for capacity := 1; capacity <= 12; capacity += 1 + capacity/4 {
		for meet := range 4 {
			mix := Mixer(1000*capacity + meet)
			c := api.Config{Capacity: capacity, Meet: meet}
			b, want := made(t, c), &model{config: c}
			for step := range long / 4 {
				do := Wild(&mix, want.high, 1+meet+mix.Below(6))
				if do.ID > 1<<62 {
					do.ID = want.high
				}
				l := want.do(do)
				for _, e := range l {
					seen[[2]int{e.Kind, e.Reason + int(e.Code)}]++
				}
				sameList(t, "Do", b.Do(do), l)
				if step%8 == 0 {
					looked(t, b, want)
				}
			}
			looked(t, b, want)
		}
	}
	for _, e := range [][2]int{{1, 0}, {3, 0}, {5, 0}, {4, 1}, {4, 2}, {4, 3}, {4, 4}, {4, 5}, {2, 90}, {2, 91}, {2, 92}, {2, 93}, {2, 94}, {2, 95}, {2, 96}, {2, 97}, {2, 98}, {2, 99}} {
		if seen[e] < 20 {
			t.Errorf("the event %v was told %d times", e, seen[e])
		}
	}
}

func TestP9_3Meet(t *testing.T) {
	for meet, want := range [][]api.Event{
		{Traded(4, 1, api.Buy, 5, 2), Refreshed(1, 5, 2), Traded(4, 2, api.Buy, 5, 3), Traded(4, 1, api.Buy, 5, 2), Refreshed(1, 5, 1), Traded(4, 1, api.Buy, 5, 1), Traded(4, 3, api.Buy, 6, 1)},
		{Ended(4, 9, api.ByMeet)},
		{Ended(1, 5, api.ByMeet), Traded(4, 2, api.Buy, 5, 3), Traded(4, 3, api.Buy, 6, 1), Ended(4, 5, api.ByRest)},
		{Ended(1, 5, api.ByMeet), Ended(4, 9, api.ByMeet)},
	} {
		b := made(t, api.Config{Capacity: 9, Meet: meet})
		b.Do(By(Peaked(Sell(1, 5, 5), 2), 7))
		b.Do(By(Sell(2, 5, 3), 8))
		b.Do(Sell(3, 6, 1))
		c := By(Order(4, api.Buy, api.IOC, 6, 9), 7)
		tells(t, b, c, append([]api.Event{Acked(c)}, want...)...)
		same(t, "Len", b.Len(), []int{0, 3, 0, 2}[meet])
	}
}

func TestP9_3MeetBehindATrade(t *testing.T) {
	for meet, want := range [][]api.Event{
		{Traded(3, 2, api.Sell, 5, 3)},
		{Ended(3, 3, api.ByMeet)},
		{Ended(2, 4, api.ByMeet)},
		{Ended(2, 4, api.ByMeet), Ended(3, 3, api.ByMeet)},
	} {
		b := made(t, api.Config{Capacity: 9, Meet: meet})
		b.Do(By(Buy(1, 6, 2), 8))
		b.Do(By(Buy(2, 5, 4), 7))
		c := By(Sell(3, 5, 5), 7)
		tells(t, b, c, append([]api.Event{Acked(c), Traded(3, 1, api.Sell, 6, 2)}, want...)...)
		// With MeetOldest what is left rests.
		same(t, "rests", find(b, 3).order.Visible, []uint64{0, 0, 3, 0}[meet])
	}
}

func TestP9_3NobodysOrdersTrade(t *testing.T) {
	for meet := range 4 {
		b := made(t, api.Config{Capacity: 9, Meet: meet})
		b.Do(Sell(1, 5, 1))
		b.Do(By(Sell(2, 5, 1), 3))
		c := Buy(3, 5, 2)
		tells(t, b, c, Acked(c), Traded(3, 1, api.Buy, 5, 1), Traded(3, 2, api.Buy, 5, 1))
	}
}
