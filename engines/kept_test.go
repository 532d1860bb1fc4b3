package engines_test

import (
	"math"
	"slices"
	"testing"

	"bourse/api"
	"bourse/ladder"
	"bourse/rules"
	. "bourse/sample"
	"bourse/treebook"
)

func TestP9_1Configs(t *testing.T) {
	each(t, func(t *testing.T, open opener) {
		for _, capacity := range []int{math.MinInt, -1, 0, 1, 2, 4095, 4096, 4097, math.MaxInt} {
			for _, meet := range []int{math.MinInt, -1, 0, 1, 2, 3, 4, math.MaxInt} {
				c := api.Config{Capacity: capacity, Meet: meet}
				if capacity >= 1 && capacity <= 4096 && meet >= 0 && meet <= 3 {
					is(t, open.made(t, c), api.Book{Config: c})
				} else if e, why := open(c); e != nil || why != api.ErrArg {
					t.Errorf("New(%v): %v, %v", c, e, why)
				}
			}
		}
	})
}

func TestP9_1Load(t *testing.T) {
	each(t, func(t *testing.T, open opener) {
		e := open.of(t, Buy(1, 3, 2), Sell(2, 5, 1))
		x := Fair()
		Same(t, "Load", e.Load(x), api.OK)
		is(t, e, Fair())
		Same(t, "whether what was handed in is as it was", SameBook(x, Fair()), true)
		for _, x := range Spoilt() {
			Same(t, "Load of what can't be", e.Load(x), api.ErrBook)
			// The config is the one that it had.
			is(t, e, api.Book{Config: Fair().Config})
			Tells(t, e, Buy(1, 10, 1), Acked(Buy(1, 10, 1)))
		}
		c := api.Config{Capacity: 1, Meet: api.MeetBoth}
		Same(t, "Load of an empty book", e.Load(api.Book{Config: c, High: 5, Seq: math.MaxUint64}), api.OK)
		is(t, e, api.Book{Config: c, High: 5, Seq: math.MaxUint64})
		Tells(t, e, Buy(6, 1, 1), Acked(Buy(6, 1, 1)))
		Refuses(t, e, Buy(7, 1, 1), api.ErrFull)
	})
}

func TestP9_1P10_6NothingIsShared(t *testing.T) {
	each(t, func(t *testing.T, open opener) {
		x := Fair()
		x.Buys = append(make([]api.Resting, 0, 9), x.Buys...)
		e := open.loaded(t, x)
		Spoil(x.Buys, api.Resting{ID: 77})
		Spoil(x.Sells, api.Resting{ID: 77})
		is(t, e, Fair())
		book, again := e.Book(), e.Book()
		Spoil(book.Buys, api.Resting{ID: 77})
		SameList(t, "Sells beside Buys", book.Sells, Fair().Sells)
		Spoil(book.Sells, api.Resting{ID: 77})
		Same(t, "whether another answer is as it was", SameBook(again, Fair()), true)
		levels, more := e.Depth(api.Buy, 9), e.Depth(api.Buy, 9)
		Spoil(levels, api.Level{Price: 77})
		SameList(t, "another Depth", more, levelsOf(Fair().Buys))
		is(t, e, Fair())
		events := e.Do(Sell(10, 10, 20))
		kept := slices.Clone(events)
		book = e.Book()
		e.Do(Buy(11, 12, 20))
		SameList(t, "events of before", events, kept)
		Same(t, "Load", e.Load(book), api.OK)
		Spoil(events, api.Event{ID: 77})
		is(t, e, book)
	})
}

func TestP9_1TwoBooksKnowNothingOfOneAnother(t *testing.T) {
	each(t, func(t *testing.T, open opener) {
		a, b := open.loaded(t, Fair()), open.loaded(t, Fair())
		c := open.loaded(t, a.Book())
		a.Do(Cancel(3))
		a.Do(Sell(10, 10, 1))
		is(t, b, Fair())
		is(t, c, Fair())
	})
}

func TestP9_1BooksThatNewDidNotMake(t *testing.T) {
	// What they answer is open, but no call may panic.
	for _, e := range []api.Engine{&rules.Book{}, &treebook.Book{}, &ladder.Book{}} {
		e.Book()
		e.Best(api.Buy)
		e.Depth(api.Sell, 9)
		e.Find(1)
		e.Len()
		mix := Mixer(90)
		for range 500 {
			e.Do(Wild(&mix, 5, 5))
		}
		e.Load(api.Book{})
		for range 500 {
			e.Do(Wild(&mix, 5, 5))
		}
		Same(t, "Load", e.Load(Fair()), api.OK)
		is(t, e, Fair())
	}
}

func TestP9_4Asked(t *testing.T) {
	each(t, func(t *testing.T, open opener) {
		e := open.meeting(t, 0, Buy(1, 5, 2), Buy(2, 7, 1), Peaked(Buy(3, 5, 100), 4), Sell(4, 9, 1), Sell(6, 8, 3), Buy(7, 7, 5))
		buys := []api.Level{{Price: 7, Qty: 6, Count: 2}, {Price: 5, Qty: 6, Count: 2}}
		sells := []api.Level{{Price: 8, Qty: 3, Count: 1}, {Price: 9, Qty: 1, Count: 1}}
		before := e.Book()
		for most := range 4 {
			SameList(t, "Depth", e.Depth(api.Buy, most), buys[:min(most, 2)])
			SameList(t, "Depth", e.Depth(api.Sell, most), sells[:min(most, 2)])
			SameList(t, "Depth", e.Depth(api.Sell, -most), nil)
			SameList(t, "Depth", e.Depth(0, most), nil)
			SameList(t, "Depth", e.Depth(3, most), nil)
		}
		SameList(t, "Depth", e.Depth(api.Buy, math.MaxInt), buys)
		SameList(t, "Depth", e.Depth(api.Buy, math.MinInt), nil)
		Same(t, "Best", Best(e, api.Buy), Top{Level: buys[0], There: true})
		Same(t, "Best", Best(e, api.Sell), Top{Level: sells[0], There: true})
		for _, side := range []int{0, 3, -1, math.MinInt, math.MaxInt} {
			Same(t, "Best", Best(e, side), Top{})
		}
		Same(t, "Find", Find(e, 3), Found{Order: api.Resting{ID: 3, Type: api.Limit, Price: 5, Visible: 4, Hidden: 96, Peak: 4}, Side: api.Buy, There: true})
		Same(t, "Find", Find(e, 6), Found{Order: api.Resting{ID: 6, Type: api.Limit, Price: 8, Visible: 3}, Side: api.Sell, There: true})
		for _, id := range []uint64{0, 5, 8, math.MaxUint64} {
			Same(t, "Find", Find(e, id), Found{})
		}
		Same(t, "Len", e.Len(), 6)
		Keeps(t, e, before)
	})
}

func TestP9_4EmptySide(t *testing.T) {
	each(t, func(t *testing.T, open opener) {
		e := open.of(t, Sell(1, 0, 1))
		Same(t, "Best", Best(e, api.Buy), Top{})
		SameList(t, "Depth", e.Depth(api.Buy, 1), nil)
		Same(t, "Best", Best(e, api.Sell), Top{Level: api.Level{Qty: 1, Count: 1}, There: true})
	})
}

func TestP9_4P10_5ToldByTheBookAlone(t *testing.T) {
	each(t, func(t *testing.T, open opener) {
		for meet := range 4 {
			mix := Mixer(500 + meet)
			e := open.made(t, api.Config{Capacity: 30, Meet: meet})
			for range long {
				e.Do(Likely(&mix, e.Book().High, 1+mix.Below(20)))
				wholly(t, e)
			}
		}
	})
}
