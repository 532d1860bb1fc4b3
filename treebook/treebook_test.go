package treebook_test

import (
	"testing"

	"bourse/api"
	. "bourse/sample"
	"bourse/treebook"
)

func TestP10_2Levels(t *testing.T) {
	b := made(t, api.Config{Capacity: 9})
	b.Do(Sell(1, 10, 5))
	b.Do(Sell(2, 12, 5))
	b.Do(Sell(3, 10, 1))
	Same(t, "Levels", levels(b), [2]int{0, 2})
	Same(t, "Heights", heights(b), [2]int{0, 2})
	SameList(t, "Depth", b.Depth(api.Sell, 9), []api.Level{{Price: 10, Qty: 6, Count: 2}, {Price: 12, Qty: 5, Count: 1}})
	c := Order(4, api.Buy, api.Market, 0, 6)
	Tells(t, b, c, Acked(c), Traded(4, 1, api.Buy, 10, 5), Traded(4, 3, api.Buy, 10, 1))
	Same(t, "Levels", levels(b), [2]int{0, 1})
	b.Do(Buy(5, 3, 1))
	b.Do(Buy(6, 3, 1))
	b.Do(Buy(7, 4, 1))
	Same(t, "Levels", levels(b), [2]int{2, 1})
	b.Do(Cancel(5))
	Same(t, "Levels", levels(b), [2]int{2, 1})
	b.Do(Cancel(6))
	Same(t, "Levels", levels(b), [2]int{1, 1})
	b.Do(Replace(7, 8, 11, 1))
	Same(t, "Levels", levels(b), [2]int{1, 1})
	Same(t, "Load", b.Load(Fair()), api.OK)
	Same(t, "Levels", levels(b), [2]int{1, 2})
	Same(t, "Load", b.Load(api.Book{}), api.ErrBook)
	Same(t, "Levels", levels(b), [2]int{})
	Same(t, "Heights", heights(b), [2]int{})
}

func TestP10_3HeightsOfManyPrices(t *testing.T) {
	// Prices that rise, that fall, and in no order; they go again from one end, from the other one, and in no order.
	const most = 4096
	for _, comes := range []func(i int) int{func(i int) int { return i }, func(i int) int { return most - 1 - i }, func(i int) int { return i * 1597 % most }} {
		for _, goes := range []func(i int) int{func(i int) int { return i }, func(i int) int { return most - 1 - i }, func(i int) int { return i * 2531 % most }} {
			b := made(t, api.Config{Capacity: most})
			for i := range most {
				b.Do(Order(uint64(i+1), api.Buy+i%2, api.Limit, comes(i)/2+i%2*most, 1))
				buys, sells := b.Levels()
				Same(t, "Levels", buys+sells, i+1)
				flat(t, heights(b)[0], buys)
				flat(t, heights(b)[1], sells)
			}
			shaped(t, b)
			for i := range most {
				b.Do(Cancel(uint64(goes(i) + 1)))
				buys, sells := b.Levels()
				Same(t, "Levels", buys+sells, most-1-i)
				flat(t, heights(b)[0], buys)
				flat(t, heights(b)[1], sells)
			}
			Same(t, "Heights", heights(b), [2]int{})
		}
	}
}

func TestP10_3HeightsOfFewPrices(t *testing.T) {
	b := made(t, api.Config{Capacity: 9})
	for i, want := range []int{1, 2, 2, 3} {
		b.Do(Buy(uint64(i+1), 10+i, 1))
		Same(t, "Heights", heights(b), [2]int{want, 0})
	}
	// An order more at a price that is there does not make it higher.
	b.Do(Buy(5, 10, 1))
	Same(t, "Heights", heights(b), [2]int{3, 0})
	Same(t, "Levels", levels(b), [2]int{4, 0})
}

func TestP10_2P10_3Runs(t *testing.T) {
	for meet := range 4 {
		mix := Mixer(500 + meet)
		b := made(t, api.Config{Capacity: 30, Meet: meet})
		for range 4000 {
			b.Do(Likely(&mix, b.Book().High, 1+mix.Below(40)))
			if mix.Below(50) == 0 {
				Same(t, "Load", b.Load(b.Book()), api.OK)
			}
			shaped(t, b)
		}
	}
}

func TestP10_2P10_3BookThatNewDidNotMake(t *testing.T) {
	var b treebook.Book
	shaped(t, &b)
	Same(t, "Load", b.Load(Fair()), api.OK)
	shaped(t, &b)
}
