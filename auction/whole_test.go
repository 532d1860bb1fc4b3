package auction_test

import (
	"math"
	"slices"
	"testing"

	"bourse/api"
	"bourse/auction"
	. "bourse/sample"
)

func TestP14_5Examples(t *testing.T) {
	l := []api.Interest{buys(1, 102, 10), buys(2, 101, 10), sells(3, 99, 5), sells(4, 101, 10)}
	c := callOf(t, 100, l...)
	fills, q := uncross(c)
	SameList(t, "Uncross", fills, []api.Fill{{Buy: 1, Sell: 3, Price: 101, Qty: 5}, {Buy: 1, Sell: 4, Price: 101, Qty: 5}, {Buy: 2, Sell: 4, Price: 101, Qty: 5}})
	Same(t, "Uncross", q, quoted{api.Quote{Price: 101, Volume: 15, Surplus: 5, Side: api.Buy, Rule: api.ByVolume}, true})
	keeps(t, c, []api.Interest{buys(2, 101, 5)}, nil)
	// Markets first, though they were entered last.
	l = []api.Interest{buys(1, 101, 5), sells(2, 99, 3), market(3, api.Sell, 1), market(4, api.Buy, 1)}
	c = callOf(t, 100, l...)
	fills, q = uncross(c)
	SameList(t, "Uncross", fills, []api.Fill{{Buy: 4, Sell: 3, Price: 101, Qty: 1}, {Buy: 1, Sell: 2, Price: 101, Qty: 3}})
	Same(t, "Uncross", q, quoted{api.Quote{Price: 101, Volume: 4, Surplus: 2, Side: api.Buy, Rule: api.ByPressure}, true})
	keeps(t, c, []api.Interest{buys(1, 101, 2)}, nil)
}

func TestP14_5WithoutAPrice(t *testing.T) {
	for _, l := range [][]api.Interest{
		nil,
		{buys(1, 90, 1), sells(2, 91, 1)},
		{market(1, api.Buy, 1), buys(2, 100, 1)},
		{market(1, api.Sell, 1)},
		{sells(1, 0, 1)},
	} {
		c := callOf(t, 100, l...)
		m := &model{reference: 100, entered: slices.Clone(l)}
		fills, q := uncross(c)
		SameList(t, "Uncross", fills, nil)
		Same(t, "Uncross", q, quoted{})
		looked(t, c, m, 110)
	}
}

// counts is how often a rule decided, and how often there was no price (0); under the Side of the surplus.
type counts map[[2]int]int

func (n counts) add(q quoted) { n[[2]int{q.quote.Rule, q.quote.Side}]++ }

// all ends a test where a rule did not decide with a surplus on each side where that can be.
func (n counts) all(t *testing.T) {
	t.Helper()
	for _, x := range [][2]int{{0, 0}, {1, 0}, {1, 1}, {1, 2}, {2, 0}, {2, 1}, {2, 2}, {3, 1}, {3, 2}, {4, 0}, {4, 1}, {4, 2}} {
		if n[x] == 0 {
			t.Errorf("the rule %d never decided with a surplus on the side %d", x[0], x[1])
		}
	}
}

func TestP14_5AsTheModelTells(t *testing.T) {
	seen, refused := counts{}, map[api.Errno]int{}
	for _, room := range []int{1, 2, 3, 6, 15, 40} {
		for _, prices := range []int{1, 2, 4, 9, 30} {
			mix := Mixer(100*room + prices)
			reference := mix.Below(prices + 2)
			c, m := made(t, reference, room), &model{reference: reference, room: room}
			for range 2000 {
				i, id := WildInterest(&mix, 2*room+2, prices), uint64(mix.Below(2*room+2))
				switch mix.Below(12) {
				case 0:
					Same(t, "Drop", drop(c, id), m.drop(id))
				case 1:
					m.reference = mix.Below(prices + 2)
					Same(t, "Anchor", c.Anchor(m.reference), api.OK)
				case 2:
					// Seldom, so that interests gather; the model can't trade great quantities one by one.
					if len(m.entered) < room/2 {
						break
					}
					m.entered = slices.DeleteFunc(m.entered, func(i api.Interest) bool { return i.Qty > 1000 && drop(c, i.ID).there })
					fills, q := uncross(c)
					wantFills, want := m.uncross()
					SameList(t, "Uncross", fills, wantFills)
					Same(t, "Uncross", q, want)
				default:
					why := c.Enter(i)
					Same(t, "Enter", why, m.enter(i))
					refused[why]++
				}
				seen.add(quote(c))
				looked(t, c, m, prices)
			}
		}
	}
	seen.all(t)
	for _, why := range []api.Errno{api.OK, api.ErrSide, api.ErrType, api.ErrPrice, api.ErrQty, api.ErrID, api.ErrFull} {
		if refused[why] == 0 {
			t.Errorf("Enter never answered %v", why)
		}
	}
}

// shapes is all interests of few prices and quantities, without an ID.
func shapes(prices int, most uint64) []api.Interest {
	var l []api.Interest
	for qty := uint64(1); qty <= most; qty++ {
		for _, side := range []int{api.Buy, api.Sell} {
			l = append(l, market(0, side, qty))
			for price := range prices {
				l = append(l, Interest(Order(0, side, api.Limit, 1+price, qty)))
			}
		}
	}
	return l
}

// every makes all lists of so many shapes, with the IDs 1, 2, ..
func every(l []api.Interest, many int, each func(chosen []api.Interest)) {
	chosen := make([]api.Interest, many)
	var choose func(at int)
	choose = func(at int) {
		if at == many {
			each(chosen)
			return
		}
		for _, i := range l {
			i.ID = uint64(at) + 1
			chosen[at] = i
			choose(at + 1)
		}
	}
	choose(0)
}

func TestP14_5AllSmallCalls(t *testing.T) {
	seen := counts{}
	try := func(reference int, l []api.Interest) {
		c := callOf(t, reference, l...)
		m := &model{reference: reference, entered: slices.Clone(l)}
		q := quote(c)
		seen.add(q)
		Same(t, "Quote", q, m.quote())
		fills, got := uncross(c)
		wantFills, want := m.uncross()
		SameList(t, "Uncross", fills, wantFills)
		Same(t, "Uncross", got, want)
		keeps(t, c, m.interests(1), m.interests(2))
		Same(t, "Quote behind it", quote(c), quoted{})
	}
	for many := range 4 {
		every(shapes(3, 2), many, func(l []api.Interest) {
			for reference := range 6 {
				try(reference, l)
			}
		})
	}
	every(shapes(2, 2), 4, func(l []api.Interest) {
		for reference := range 4 {
			try(reference, l)
		}
	})
	seen.all(t)
}

func TestP14_5GreatQuantities(t *testing.T) {
	half := api.MaxOrders / 2
	c := made(t, 100, api.MaxOrders)
	for n := range half {
		Same(t, "Enter", c.Enter(buys(uint64(2*n)+1, 200+n, api.MaxQty)), api.OK)
		Same(t, "Enter", c.Enter(sells(uint64(2*n)+2, 200-n%200, api.MaxQty)), api.OK)
	}
	all := uint64(half) * api.MaxQty
	Same(t, "Curve", curve(c, 200), [2]uint64{all, all})
	Same(t, "Quote", quote(c), quoted{api.Quote{Price: 200, Volume: all, Rule: api.ByVolume}, true})
	fills, q := uncross(c)
	Same(t, "Uncross", q.quote.Volume, all)
	Same(t, "how many fills", len(fills), half)
	Same(t, "the first fill", fills[0], api.Fill{Buy: uint64(2*half) - 1, Sell: 2*199 + 2, Price: 200, Qty: api.MaxQty})
	keeps(t, c, nil, nil)
	// All of one side against one of the other, whose rest stays.
	for n := range api.MaxOrders - 1 {
		Same(t, "Enter", c.Enter(market(uint64(n)+1, api.Sell, api.MaxQty)), api.OK)
	}
	Same(t, "Enter", c.Enter(buys(9999, 7, 5)), api.OK)
	Same(t, "Enter", c.Enter(buys(9998, 7, 5)), api.ErrFull)
	Same(t, "Quote", quote(c), quoted{api.Quote{Price: 7, Volume: 5, Surplus: (api.MaxOrders-1)*api.MaxQty - 5, Side: api.Sell, Rule: api.ByVolume}, true})
	fills, _ = uncross(c)
	SameList(t, "Uncross", fills, []api.Fill{{Buy: 9999, Sell: 1, Price: 7, Qty: 5}})
	Same(t, "what is left of the first", c.Interests(api.Sell)[0], market(1, api.Sell, api.MaxQty-5))
	Same(t, "Len", c.Len(), api.MaxOrders-1)
}

// someInterests is a list of likely ones, each with an ID of its own, with prices over the whole range or a small part of it.
func someInterests(mix *Mixer, many int) []api.Interest {
	prices := Pick(mix, 3, 10, 1000, api.Ticks)
	from := mix.Below(api.Ticks - prices + 1)
	var l []api.Interest
	for n := range many {
		i := LikelyInterest(mix, 2, prices)
		i.ID = uint64(n) + 1
		if i.Type == api.Limit {
			i.Price += from
		}
		if mix.Below(8) == 0 {
			i.Qty = mix.Next()%api.MaxQty + 1
		}
		l = append(l, i)
	}
	return l
}

func TestP14_6AtNoTickMore(t *testing.T) {
	mix := Mixer(146)
	for many := range 40 {
		c := callOf(t, mix.Below(api.Ticks), someInterests(&mix, many)...)
		q := quote(c)
		var greatest uint64
		for price := range api.Ticks {
			bought, sold := c.Curve(price)
			greatest = max(greatest, min(bought, sold))
		}
		Same(t, "the greatest volume", q.quote.Volume, greatest)
		Same(t, "whether there is a price", q.there, greatest > 0)
		if q.there {
			at := curve(c, q.quote.Price)
			Same(t, "the volume at the price", min(at[0], at[1]), greatest)
		}
	}
}

func TestP14_7NothingIsLeft(t *testing.T) {
	mix := Mixer(147)
	for many := range 40 {
		l := someInterests(&mix, many)
		c := callOf(t, mix.Below(api.Ticks), l...)
		uncross(c)
		Same(t, "Quote", quote(c), quoted{})
		for price := range api.Ticks {
			if bought, sold := c.Curve(price); min(bought, sold) != 0 {
				t.Fatalf("at %d would be traded behind Uncross of %+v", price, l)
			}
		}
		// Nor with another reference, and nothing is changed by asking again.
		left := [2][]api.Interest{c.Interests(api.Buy), c.Interests(api.Sell)}
		for range 3 {
			Same(t, "Anchor", c.Anchor(mix.Below(api.Ticks)), api.OK)
			fills, q := uncross(c)
			SameList(t, "Uncross again", fills, nil)
			Same(t, "Uncross again", q, quoted{})
		}
		keeps(t, c, left[0], left[1])
	}
}

// accounts is what each interest traded, by the fills alone; they must be at one price, and none of nothing.
func accounts(t *testing.T, fills []api.Fill, price int) (map[uint64]uint64, uint64) {
	t.Helper()
	traded, all := map[uint64]uint64{}, uint64(0)
	for _, f := range fills {
		Same(t, "a fill's price", f.Price, price)
		if f.Qty == 0 {
			t.Fatalf("a fill of nothing: %+v", f)
		}
		traded[f.Buy] += f.Qty
		traded[f.Sell] += f.Qty
		all += f.Qty
	}
	return traded, all
}

func TestP14_8Fair(t *testing.T) {
	mix := Mixer(148)
	for round := range 3000 {
		c := callOf(t, mix.Below(api.Ticks), someInterests(&mix, round%60)...)
		lists := [2][]api.Interest{c.Interests(api.Buy), c.Interests(api.Sell)}
		fills, q := uncross(c)
		traded, all := accounts(t, fills, q.quote.Price)
		Same(t, "what the fills add up to", all, q.quote.Volume)
		for n, l := range lists {
			left := c.Interests(n + 1)
			waits := false
			for _, i := range l {
				qty := traded[i.ID]
				delete(traded, i.ID)
				if qty > 0 && (waits || i.Type == api.Limit && (n == 0 && q.quote.Price > i.Price || n == 1 && q.quote.Price < i.Price)) {
					t.Fatalf("%+v traded %d in %+v", i, qty, fills)
				}
				// Behind one that was not traded whole nobody trades.
				if i.Qty > qty {
					waits = true
					i.Qty -= qty
					Same(t, "what is left", left[0], i)
					left = left[1:]
				}
			}
			Same(t, "others that are left", len(left), 0)
		}
		Same(t, "others that traded", len(traded), 0)
	}
}

func TestP14_8InTheirOrder(t *testing.T) {
	mix := Mixer(1481)
	for round := range 1000 {
		c := callOf(t, mix.Below(api.Ticks), someInterests(&mix, round%60)...)
		buyers, sellers := c.Interests(api.Buy), c.Interests(api.Sell)
		fills, _ := uncross(c)
		// Each fill is of the first of both sides who have something left.
		for _, f := range fills {
			Same(t, "who trades", [2]uint64{f.Buy, f.Sell}, [2]uint64{buyers[0].ID, sellers[0].ID})
			Same(t, "how much", f.Qty, min(buyers[0].Qty, sellers[0].Qty))
			buyers, sellers = lessened(buyers, f.Qty), lessened(sellers, f.Qty)
		}
		keeps(t, c, buyers, sellers)
	}
}

// lessened is a list of which the first one traded so much.
func lessened(l []api.Interest, qty uint64) []api.Interest {
	l[0].Qty -= qty
	if l[0].Qty == 0 {
		return l[1:]
	}
	return l
}

func TestP14_9WhateverTheOrder(t *testing.T) {
	mix := Mixer(149)
	seen := counts{}
	for round := range 4000 {
		l := someInterests(&mix, round%20)
		reference := mix.Below(api.Ticks)
		if len(l) > 0 && round%2 == 0 {
			reference = l[0].Price
		}
		want := quote(callOf(t, reference, l...))
		seen.add(want)
		for range 4 {
			for n := range l {
				other := mix.Below(n + 1)
				l[n], l[other] = l[other], l[n]
			}
			c := made(t, 0, api.MaxOrders)
			for n, i := range l {
				// Some that come and go, and another reference on the way.
				passing := LikelyInterest(&mix, 2, api.Ticks)
				passing.ID = uint64(1000 + n)
				Same(t, "Enter", c.Enter(passing), api.OK)
				Same(t, "Enter", c.Enter(i), api.OK)
				Same(t, "Drop", drop(c, passing.ID), found{passing, true})
			}
			Same(t, "Anchor", c.Anchor(reference), api.OK)
			Same(t, "Quote", quote(c), want)
			// Nor on the room, the IDs and the members.
			for n := range l {
				l[n].ID, l[n].Member = math.MaxUint64-uint64(n), uint32(mix.Next())
			}
			Same(t, "Quote", quote(callOf(t, reference, l...)), want)
		}
	}
	seen.all(t)
}

func TestP14_9TwoCallsKnowNothingOfOneAnother(t *testing.T) {
	a, b := callOf(t, 100, buys(1, 105, 3)), callOf(t, 100, sells(1, 95, 3))
	Same(t, "Quote", quote(a), quoted{})
	Same(t, "Quote", quote(b), quoted{})
	Same(t, "Drop", drop(a, 1).there, true)
	keeps(t, b, nil, []api.Interest{sells(1, 95, 3)})
	// One that New did not make has no room.
	var c auction.Call
	Same(t, "Enter", c.Enter(buys(1, 1, 1)), api.ErrFull)
	Same(t, "Quote", quote(&c), quoted{})
	keeps(t, &c, nil, nil)
}
