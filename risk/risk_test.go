package risk_test

import (
	"math"
	"slices"
	"testing"

	"bourse/api"
	"bourse/risk"
	. "bourse/sample"
)

// tight is the limits of the chapter's examples.
func tight() api.Limits {
	return api.Limits{Order: 10, Open: 15, Count: 2, Position: 12, Worth: 1000}
}

func TestP21_1New(t *testing.T) {
	d := risk.New()
	SameList(t, "Members", d.Members(), nil)
	for _, m := range people() {
		s, ok := d.Standing(m)
		Same(t, "Standing", s, api.Standing{})
		Same(t, "Standing", ok, false)
		SameList(t, "Open", d.Open(m), nil)
	}
	for _, id := range things() {
		rests(t, d, id, 0)
	}
}

func TestP21_1Set(t *testing.T) {
	d := risk.New()
	for _, x := range []struct {
		member uint32
		l      api.Limits
		why    api.Errno
	}{
		{0, free(), api.ErrArg}, {0, api.Limits{Count: -1}, api.ErrArg}, {1, api.Limits{Count: -1}, api.ErrArg}, {1, api.Limits{Order: 5, Count: math.MinInt}, api.ErrArg},
		{9, api.Limits{}, api.OK}, {last, free(), api.OK}, {2, tight(), api.OK}, {1 << 31, api.Limits{Count: 1}, api.OK},
	} {
		Same(t, "Set", d.Set(x.member, x.l), x.why)
		if x.why == api.OK {
			Same(t, "Standing", stands(t, d, x.member), api.Standing{Limits: x.l})
		}
	}
	SameList(t, "Members", d.Members(), []uint32{2, 9, 1 << 31, last})
	// What is refused leaves the limits as they were; what is taken is in their place.
	Same(t, "Set", d.Set(2, api.Limits{Order: 1, Count: -1}), api.ErrArg)
	Same(t, "Standing", stands(t, d, 2), api.Standing{Limits: tight()})
	Same(t, "Set", d.Set(2, api.Limits{Order: 1}), api.OK)
	Same(t, "Standing", stands(t, d, 2), api.Standing{Limits: api.Limits{Order: 1}})
	SameList(t, "Members", d.Members(), []uint32{2, 9, 1 << 31, last})
}

// What a member bought, sold and has open does not hang on when it was set, nor on how often.
func TestP21_1SetLater(t *testing.T) {
	d := risk.New()
	d.Behind(Numbered(0,
		Acked(order(1, 7, api.Sell, 10, 9)), Acked(order(2, 8, api.Buy, 10, 4)), Traded(2, 1, api.Buy, 10, 4),
		Acked(order(3, 8, api.Sell, 11, 6)), Acked(order(4, 7, api.Buy, 11, 1)), Traded(4, 3, api.Buy, 11, 1),
	))
	SameList(t, "Members", d.Members(), nil)
	SameList(t, "Open", d.Open(7), []uint64{1})
	Same(t, "Set", d.Set(7, tight()), api.OK)
	want := api.Standing{Limits: tight(), Sells: 5, Count: 1, Bought: 1, Sold: 4}
	Same(t, "Standing", stands(t, d, 7), want)
	d.Kill(7)
	Same(t, "Set", d.Set(7, free()), api.OK)
	want.Limits, want.Killed = free(), true
	Same(t, "Standing", stands(t, d, 7), want)
	Same(t, "Set", d.Set(8, free()), api.OK)
	Same(t, "Standing", stands(t, d, 8), api.Standing{Limits: free(), Sells: 5, Count: 1, Bought: 4, Sold: 1})
	SameList(t, "Members", d.Members(), []uint32{7, 8})
}

func TestP21_1Open(t *testing.T) {
	d := desk(t, 7)
	for _, id := range []uint64{9, 3, top, 0, 1 << 63, 5} {
		opens(d, id, 7, api.Buy, id+1) // of the ID 2^64 - 1: none
	}
	opens(d, 4, 0, api.Sell, 2)
	opens(d, 2, 0, api.Sell, 3)
	opens(d, 6, last, 3, 1)
	SameList(t, "Open", d.Open(7), []uint64{0, 3, 5, 9, 1 << 63})
	SameList(t, "Open", d.Open(0), []uint64{2, 4})
	SameList(t, "Open", d.Open(last), []uint64{6})
	SameList(t, "Open", d.Open(8), nil)
	rests(t, d, 1<<63, 1<<63+1)
	rests(t, d, 0, 1)
	rests(t, d, top, 0)
	SameList(t, "Members", d.Members(), []uint32{7})
	_, ok := d.Standing(0)
	Same(t, "Standing", ok, false)
}

// What is neither a buy nor a sell counts as a sell; sums wrap.
func TestP21_1Standing(t *testing.T) {
	d := desk(t, 7)
	opens(d, 1, 7, api.Buy, 5)
	opens(d, 2, 7, api.Sell, 7)
	opens(d, 3, 7, 0, 10)
	opens(d, 4, 7, -1, 100)
	opens(d, 5, 7, 1<<32+1, 1000)
	opens(d, 6, 8, api.Buy, 1<<20)
	Same(t, "Standing", stands(t, d, 7), api.Standing{Limits: free(), Buys: 5, Sells: 1117, Count: 5})
	opens(d, 7, 7, api.Buy, top-2)
	opens(d, 8, 7, api.Sell, top)
	Same(t, "Standing", stands(t, d, 7), api.Standing{Limits: free(), Buys: 2, Sells: 1116, Count: 7})
}

func TestP21_2Kill(t *testing.T) {
	d := desk(t, 7, 9)
	opens(d, 5, 7, api.Buy, 2)
	opens(d, 3, 7, api.Sell, 2)
	opens(d, 4, 8, api.Sell, 2)
	for _, m := range []uint32{0, 8, last} {
		l, why := d.Kill(m)
		SameList(t, "Kill", l, nil)
		Same(t, "Kill", why, api.ErrMember)
		Same(t, "Revive", d.Revive(m), api.ErrMember)
	}
	SameList(t, "Members", d.Members(), []uint32{7, 9})
	for range 2 { // once more is no other
		l, why := d.Kill(7)
		SameList(t, "Kill", l, []uint64{3, 5})
		Same(t, "Kill", why, api.OK)
		Same(t, "Killed", stands(t, d, 7), api.Standing{Limits: free(), Killed: true, Buys: 2, Sells: 2, Count: 2})
		Same(t, "Killed", stands(t, d, 9).Killed, false)
	}
	l, why := d.Kill(9)
	SameList(t, "Kill", l, nil)
	Same(t, "Kill", why, api.OK)
	for range 2 {
		Same(t, "Revive", d.Revive(7), api.OK)
		Same(t, "Killed", stands(t, d, 7).Killed, false)
		Same(t, "Killed", stands(t, d, 9).Killed, true)
	}
}

func TestP21_3Owner(t *testing.T) {
	d := desk(t, 7, 8)
	opens(d, 1, 7, api.Buy, 5)
	opens(d, 2, 0, api.Buy, 5)
	opens(d, 3, 9, api.Buy, 5)
	for _, x := range []struct {
		target uint64
		member uint32
		why    api.Errno
	}{{1, 7, api.OK}, {1, 8, api.ErrOwner}, {1, 0, api.ErrOwner}, {1, 9, api.ErrOwner}, {2, 0, api.OK}, {2, 7, api.ErrOwner}, {3, 9, api.OK}, {4, 7, api.OK}, {4, 9, api.OK}, {0, 0, api.OK}} {
		asks(t, d, By(Cancel(x.target), x.member), x.why)
	}
	asks(t, d, moves(1, 4, 7, 10, 5), api.OK)
	asks(t, d, moves(1, 4, 8, 10, 5), api.ErrOwner)
	asks(t, d, moves(1, 4, 9, 10, 5), api.ErrOwner) // ahead of ErrMember
	asks(t, d, moves(2, 4, 0, 10, 5), api.ErrMember)
	asks(t, d, moves(3, 4, 9, 10, 5), api.ErrMember)
	d.Kill(8)
	asks(t, d, moves(1, 4, 8, 10, 5), api.ErrOwner)
	asks(t, d, By(Cancel(1), 8), api.ErrOwner)
	// A New means no order, whatever its Target is.
	c := order(4, 7, api.Buy, 10, 5)
	c.Target = 3
	asks(t, d, c, api.OK)
}

func TestP21_3Kinds(t *testing.T) {
	d := risk.New()
	Same(t, "Set", d.Set(7, api.Limits{}), api.OK)
	d.Kill(7)
	opens(d, 1, 8, api.Buy, 5)
	for _, kind := range []int{math.MinInt, -1, 0, 4, 5, 1<<32 + 1, math.MaxInt} {
		c := api.Command{Kind: kind, ID: 4, Target: 1, Member: 7, Side: api.Buy, Type: api.Limit, Price: 10, Qty: 5}
		asks(t, d, c, api.OK)
		asks(t, d, By(c, 9), api.OK)
	}
}

// Each has the fault, and such as come behind it.
func TestP21_3First(t *testing.T) {
	l := api.Limits{Order: 10, Open: 12, Count: 1, Position: 4, Worth: 20}
	for _, x := range []struct {
		turn func(l *api.Limits)
		c    api.Command
		why  api.Errno
	}{
		{func(*api.Limits) {}, order(2, 8, api.Buy, 100, 11), api.ErrMember},
		{func(*api.Limits) {}, order(2, 7, api.Buy, 100, 11), api.ErrOrder},
		{func(*api.Limits) {}, order(2, 7, api.Buy, 100, 10), api.ErrCount},
		{func(l *api.Limits) { l.Count = 2 }, order(2, 7, api.Buy, 100, 10), api.ErrOpened},
		{func(l *api.Limits) { l.Count, l.Open = 2, 13 }, order(2, 7, api.Buy, 100, 10), api.ErrPosition},
		{func(l *api.Limits) { l.Count, l.Open, l.Position = 2, 13, 13 }, order(2, 7, api.Buy, 100, 10), api.ErrWorth},
		{func(l *api.Limits) { l.Count, l.Open, l.Position, l.Worth = 2, 13, 13, 1000 }, order(2, 7, api.Buy, 100, 10), api.OK},
		{func(*api.Limits) {}, moves(1, 2, 8, 100, 11), api.ErrOwner},
		{func(*api.Limits) {}, moves(1, 2, 7, 100, 11), api.ErrOrder},
		{func(l *api.Limits) { l.Open = 9 }, moves(1, 2, 7, 100, 10), api.ErrOpened},
		{func(l *api.Limits) { l.Open = 10 }, moves(1, 2, 7, 100, 10), api.ErrPosition},
		{func(l *api.Limits) { l.Open, l.Position = 10, 10 }, moves(1, 2, 7, 100, 10), api.ErrWorth},
		{func(l *api.Limits) { l.Open, l.Position, l.Worth, l.Count = 10, 10, 1000, 0 }, moves(1, 2, 7, 100, 10), api.OK},
		{func(*api.Limits) {}, moves(5, 2, 7, 100, 11), api.ErrOrder},
		{func(*api.Limits) {}, moves(5, 2, 8, 100, 11), api.ErrMember},
		{func(*api.Limits) {}, moves(5, 2, 7, 100, 10), api.OK}, // the book will refuse it
	} {
		d, with := risk.New(), l
		x.turn(&with)
		Same(t, "Set", d.Set(7, with), api.OK)
		opens(d, 1, 7, api.Buy, 3)
		asks(t, d, x.c, x.why)
		if x.c.Member == 7 {
			d.Kill(7)
			asks(t, d, x.c, api.ErrKilled)
		}
	}
}

func TestP21_3Count(t *testing.T) {
	d := desk(t, 7)
	for n := range 4 {
		l := free()
		for _, limit := range []int{0, 1, 2, 3, 4, math.MaxInt} {
			l.Count = limit
			Same(t, "Set", d.Set(7, l), api.OK)
			want := api.OK
			if n >= limit {
				want = api.ErrCount
			}
			asks(t, d, order(50, 7, api.Sell, 10, 1), want)
			if n > 0 {
				asks(t, d, moves(1, 50, 7, 10, 1), api.OK)
			}
		}
		opens(d, uint64(n+1), 7, 1+n%2, 1)
		opens(d, uint64(n+11), 8, 1, 1) // another's are not counted
	}
}

// Both sides count, and no sum wraps, whichever it is.
func TestP21_3Opened(t *testing.T) {
	for _, x := range []struct {
		buys, sells, open, qty uint64
		why                    api.Errno
	}{
		{0, 0, 0, 0, api.OK}, {0, 0, 0, 1, api.ErrOpened}, {0, 0, top, top, api.OK}, {0, 0, top - 1, top, api.ErrOpened},
		{3, 4, 10, 3, api.OK}, {3, 4, 10, 4, api.ErrOpened}, {3, 4, 6, 0, api.ErrOpened},
		{top, 0, top, 1, api.ErrOpened}, {0, top, top, 1, api.ErrOpened}, {1 << 63, 1 << 63, top, 0, api.ErrOpened}, {1 << 63, 1<<63 - 1, top, 0, api.OK}, {top, top, top, top, api.ErrOpened}, {1 << 63, 1 << 63, 5, 5, api.ErrOpened},
	} {
		d, l := risk.New(), free()
		l.Open = x.open
		Same(t, "Set", d.Set(7, l), api.OK)
		opens(d, 1, 7, api.Buy, x.buys)
		opens(d, 2, 7, api.Sell, x.sells)
		for _, side := range []int{api.Buy, api.Sell, 0} {
			asks(t, d, order(3, 7, side, 0, x.qty), x.why)
		}
	}
}

// Of a Replace the rest of what it replaces is taken off, on that one's side.
func TestP21_3Was(t *testing.T) {
	for _, side := range []int{api.Buy, api.Sell, 0} {
		d, other := desk(t, 7), api.Buy
		if side == api.Buy {
			other = api.Sell
		}
		opens(d, 1, 7, side, 9)
		opens(d, 2, 7, side, 2)
		opens(d, 3, 7, other, 5)
		d.Behind(Numbered(0, Ended(1, 3, api.ByOwner))) // its rest is 6, not 9
		for _, x := range []struct {
			open, position, qty uint64
			why                 api.Errno
		}{
			{13, top, 6, api.OK}, {13, top, 7, api.ErrOpened}, {12, top, 6, api.ErrOpened}, {6, top, 0, api.ErrOpened}, {7, top, 0, api.OK},
			{top, 8, 6, api.OK}, {top, 8, 7, api.ErrPosition}, {top, 7, 6, api.ErrPosition}, {top, 2, 0, api.OK}, {top, 1, 0, api.ErrPosition},
		} {
			l := free()
			l.Open, l.Position = x.open, x.position
			d.Set(7, l)
			c := moves(1, 9, 7, 10, x.qty)
			for _, c.Side = range []int{api.Buy, api.Sell, 0} { // a Replace has no side of its own
				asks(t, d, c, x.why)
			}
		}
	}
}

// What was is taken off as a whole number, though the sums that are told have wrapped.
func TestP21_3WasAboveSum(t *testing.T) {
	d, l := risk.New(), free()
	l.Open, l.Position = 0, 0
	Same(t, "Set", d.Set(7, l), api.OK)
	opens(d, 1, 7, api.Buy, 1<<63)
	opens(d, 2, 7, api.Buy, 1<<63)
	Same(t, "Buys", stands(t, d, 7).Buys, 0)
	asks(t, d, moves(1, 3, 7, 0, 1<<63), api.OK)
	asks(t, d, moves(1, 3, 7, 0, 1<<63+1), api.ErrOpened)
	asks(t, d, moves(1, 3, 7, 0, 0), api.OK)
	asks(t, d, order(3, 7, api.Buy, 0, 1), api.ErrOpened)
	l.Open = 1
	d.Set(7, l)
	asks(t, d, moves(1, 3, 7, 0, 1<<63+1), api.ErrPosition)
}

// trading is a desk whose member 7 bought and sold so much, and has so much open.
func trading(t *testing.T, bought, sold, buys, sells uint64, l api.Limits) *risk.Desk {
	t.Helper()
	d := desk(t)
	Same(t, "Set", d.Set(7, l), api.OK)
	d.Behind(Numbered(0,
		Acked(order(1, 7, api.Buy, 1, bought)), Traded(1, 99, api.Buy, 1, bought),
		Acked(order(2, 7, api.Sell, 1, sold)), Traded(2, 99, api.Sell, 1, sold),
		Acked(order(3, 7, api.Buy, 1, buys)), Acked(order(4, 7, api.Sell, 1, sells)),
	))
	s := stands(t, d, 7)
	Same(t, "Standing", [4]uint64{s.Bought, s.Sold, s.Buys, s.Sells}, [4]uint64{bought, sold, buys, sells})
	return d
}

func TestP21_3Position(t *testing.T) {
	for _, x := range []struct {
		bought, sold, buys, sells, position, qty uint64
		buy, sell                                api.Errno
	}{
		{0, 0, 0, 0, 5, 5, api.OK, api.OK}, {0, 0, 0, 0, 5, 6, api.ErrPosition, api.ErrPosition},
		{0, 0, 2, 0, 5, 4, api.ErrPosition, api.OK}, {0, 0, 0, 2, 5, 4, api.OK, api.ErrPosition}, {0, 0, 2, 2, 5, 3, api.OK, api.OK},
		{3, 0, 0, 0, 5, 3, api.ErrPosition, api.OK}, {3, 0, 0, 0, 5, 8, api.ErrPosition, api.OK}, {3, 0, 0, 0, 5, 9, api.ErrPosition, api.ErrPosition},
		{0, 3, 0, 0, 5, 3, api.OK, api.ErrPosition}, {0, 3, 0, 0, 5, 8, api.OK, api.ErrPosition}, {0, 3, 0, 0, 5, 9, api.ErrPosition, api.ErrPosition},
		{4, 2, 1, 3, 5, 2, api.OK, api.OK}, {4, 2, 1, 3, 5, 3, api.ErrPosition, api.OK}, {4, 2, 1, 3, 5, 4, api.ErrPosition, api.OK}, {4, 2, 1, 3, 5, 5, api.ErrPosition, api.ErrPosition},
		{9, 1, 0, 0, 5, 0, api.ErrPosition, api.OK}, {1, 9, 0, 0, 5, 0, api.OK, api.ErrPosition},
		{top, 0, 0, 0, top, 1, api.ErrPosition, api.OK}, {0, top, 0, 0, top, 1, api.OK, api.ErrPosition}, {top, top, 0, 0, 1, 1, api.OK, api.OK}, {top, top, 0, 0, 1, 2, api.ErrPosition, api.ErrPosition},
		{1 << 63, 0, 1 << 62, 0, top, 1 << 62, api.ErrPosition, api.OK}, {1 << 63, 0, 1 << 62, 0, top, 1<<62 - 1, api.OK, api.OK},
		{0, 1, 0, 0, top, top, api.OK, api.ErrPosition}, {1, 0, 0, 0, top, top, api.ErrPosition, api.OK},
	} {
		l := free()
		l.Position = x.position
		d := trading(t, x.bought, x.sold, x.buys, x.sells, l)
		for side, want := range map[int]api.Errno{api.Buy: x.buy, api.Sell: x.sell, 0: x.sell, 3: x.sell} {
			if why := d.Ahead(order(9, 7, side, 0, x.qty)); why != want {
				t.Fatalf("%+v, the side %d: %v", x, side, why)
			}
		}
	}
}

func TestP21_3Worth(t *testing.T) {
	for _, x := range []struct {
		price    int
		qty, lim uint64
		why      api.Errno
	}{
		{200, 5, 1000, api.OK}, {201, 5, 1000, api.ErrWorth}, {1, 1, 0, api.ErrWorth}, {0, 5, 0, api.OK}, {-1, 5, 0, api.OK}, {math.MinInt, top, 0, api.OK}, {1, 0, 0, api.OK},
		{1, top, top, api.OK}, {2, 1 << 63, top, api.ErrWorth}, {2, 1<<63 - 1, top, api.OK}, {1 << 32, 1 << 32, 5, api.ErrWorth}, {math.MaxInt, top, top, api.ErrWorth}, {api.Ticks - 1, api.MaxQty, (api.Ticks - 1) * api.MaxQty, api.OK}, {api.Ticks - 1, api.MaxQty, (api.Ticks-1)*api.MaxQty - 1, api.ErrWorth},
	} {
		d, l := risk.New(), free()
		l.Worth = x.lim
		Same(t, "Set", d.Set(7, l), api.OK)
		for _, kind := range []int{math.MinInt, 0, api.Limit, api.IOC, api.FOK, api.PostOnly, 6, 1<<32 + 2} {
			asks(t, d, By(Order(2, api.Buy, kind, x.price, x.qty), 7), x.why)
		}
		asks(t, d, By(Order(2, api.Buy, api.Market, x.price, x.qty), 7), api.OK)
		opens(d, 1, 7, api.Buy, max(x.qty, 1))
		c := moves(1, 2, 7, x.price, x.qty)
		for _, c.Type = range []int{0, api.Limit, api.Market} { // a Replace has no type of its own
			asks(t, d, c, x.why)
		}
	}
}

func TestP21_3Nothing(t *testing.T) {
	x := Mixer(5)
	d := risk.New()
	d.Set(1, tight())
	d.Set(2, free())
	for i := range 400 {
		c := Wild(&x, uint64(i%9), 30)
		before := state(d)
		d.Ahead(c)
		Same(t, "what it keeps", state(d), before)
		d.Behind(Numbered(0, Acked(c)))
	}
}

func TestP21_4Ack(t *testing.T) {
	d := desk(t, 7, 8)
	opens(d, 1, 7, api.Buy, 5)
	opens(d, 2, 7, api.Sell, 6)
	opens(d, 1, 8, api.Sell, 9) // in the place of the other one
	SameList(t, "Open", d.Open(7), []uint64{2})
	SameList(t, "Open", d.Open(8), []uint64{1})
	Same(t, "Standing", stands(t, d, 7), api.Standing{Limits: free(), Sells: 6, Count: 1})
	Same(t, "Standing", stands(t, d, 8), api.Standing{Limits: free(), Sells: 9, Count: 1})
	opens(d, 1, 7, api.Buy, 0)
	rests(t, d, 1, 0)
	SameList(t, "Open", d.Open(8), nil)
	SameList(t, "Open", d.Open(7), []uint64{2})
	opens(d, 3, 7, api.Buy, 0)
	rests(t, d, 3, 0)
	opens(d, 3, 7, api.Buy, top)
	rests(t, d, 3, top)
}

func TestP21_4Trade(t *testing.T) {
	d := desk(t, 7, 8)
	opens(d, 1, 7, api.Sell, 10)
	opens(d, 2, 8, api.Buy, 10)
	type both struct{ seven, eight api.Standing }
	tells := func(e api.Event, want both) {
		t.Helper()
		d.Behind(Numbered(0, e))
		want.seven.Limits, want.eight.Limits = free(), free()
		Same(t, "Standing", both{stands(t, d, 7), stands(t, d, 8)}, want)
	}
	tells(Traded(2, 1, api.Buy, 10, 3), both{api.Standing{Sells: 7, Count: 1, Sold: 3}, api.Standing{Buys: 7, Count: 1, Bought: 3}})
	tells(Traded(1, 2, api.Sell, 10, 2), both{api.Standing{Sells: 5, Count: 1, Sold: 5}, api.Standing{Buys: 5, Count: 1, Bought: 5}})
	// The side is that of the event, and what is not Buy is a sale of the one that came.
	tells(Traded(2, 1, 0, 10, 1), both{api.Standing{Sells: 4, Count: 1, Bought: 1, Sold: 5}, api.Standing{Buys: 4, Count: 1, Bought: 5, Sold: 1}})
	tells(Traded(99, 1, api.Buy, 10, 1), both{api.Standing{Sells: 3, Count: 1, Bought: 1, Sold: 6}, api.Standing{Buys: 4, Count: 1, Bought: 5, Sold: 1}})
	tells(Traded(2, 99, api.Buy, 10, 1), both{api.Standing{Sells: 3, Count: 1, Bought: 1, Sold: 6}, api.Standing{Buys: 3, Count: 1, Bought: 6, Sold: 1}})
	tells(Traded(2, 1, api.Buy, 10, 0), both{api.Standing{Sells: 3, Count: 1, Bought: 1, Sold: 6}, api.Standing{Buys: 3, Count: 1, Bought: 6, Sold: 1}})
	// What is more than a rest counts whole.
	tells(Traded(2, 99, api.Buy, 10, 5), both{api.Standing{Sells: 3, Count: 1, Bought: 1, Sold: 6}, api.Standing{Bought: 11, Sold: 1}})
	tells(Traded(2, 1, api.Buy, 10, 3), both{api.Standing{Bought: 1, Sold: 9}, api.Standing{Bought: 11, Sold: 1}})
	rests(t, d, 1, 0)
	rests(t, d, 2, 0)
}

// An order that trades with itself is looked for twice: it may be gone by then.
func TestP21_4TradeWithItself(t *testing.T) {
	d := desk(t, 7)
	opens(d, 1, 7, api.Buy, 10)
	d.Behind(Numbered(0, Traded(1, 1, api.Buy, 10, 3)))
	rests(t, d, 1, 4)
	Same(t, "Standing", stands(t, d, 7), api.Standing{Limits: free(), Buys: 4, Count: 1, Bought: 3, Sold: 3})
	d.Behind(Numbered(0, Traded(1, 1, api.Buy, 10, 4)))
	rests(t, d, 1, 0)
	Same(t, "Standing", stands(t, d, 7), api.Standing{Limits: free(), Bought: 7, Sold: 3})
}

func TestP21_4Wraps(t *testing.T) {
	d := desk(t, 7)
	for _, side := range []int{api.Buy, api.Sell} {
		opens(d, 1, 7, side, 1)
		d.Behind(Numbered(0, Traded(1, 9, side, 1, top)))
		opens(d, 1, 7, side, top)
		d.Behind(Numbered(0, Traded(1, 9, side, 1, 6)))
		rests(t, d, 1, top-6)
	}
	Same(t, "Standing", stands(t, d, 7), api.Standing{Limits: free(), Sells: top - 6, Count: 1, Bought: 5, Sold: 5})
}

func TestP21_4Cancel(t *testing.T) {
	d := desk(t, 7)
	for _, x := range []struct{ rest, qty, left uint64 }{{9, 4, 5}, {9, 0, 9}, {9, 8, 1}, {9, 9, 0}, {9, 10, 0}, {9, top, 0}, {top, top - 1, 1}, {top, top, 0}} {
		for reason := range 8 {
			opens(d, 1, 7, api.Buy, x.rest)
			opens(d, 2, 7, api.Sell, 3)
			d.Behind(Numbered(0, Ended(1, x.qty, reason), Ended(99, 2, reason)))
			rests(t, d, 1, x.left)
			rests(t, d, 2, 3)
			s := stands(t, d, 7)
			Same(t, "Buys", s.Buys, x.left)
			Same(t, "what was bought and sold", s.Bought+s.Sold, 0)
		}
	}
}

func TestP21_4Others(t *testing.T) {
	d := desk(t, 7)
	opens(d, 1, 7, api.Buy, 9)
	before := state(d)
	for _, kind := range []int{math.MinInt, -1, 0, api.EvReject, api.EvRefresh, api.EvStop, api.EvTrigger, api.EvPhase, api.EvPrice, 10, api.EvHalt, api.EvResume, 1<<32 + 1, math.MaxInt} {
		for _, id := range []uint64{0, 1, 2} {
			d.Behind([]api.Event{{Seq: 3, Kind: kind, ID: id, Other: 1, Target: 1, Member: 7, Side: api.Buy, Price: 10, Qty: 4}})
			Same(t, "what it keeps", state(d), before)
		}
	}
	d.Behind(nil)
	d.Behind([]api.Event{})
	Same(t, "what it keeps", state(d), before)
}

// Of one list the events are done one behind the other, as if they came one by one.
func TestP21_4InOrder(t *testing.T) {
	l := []api.Event{Acked(order(1, 7, api.Buy, 1, 5)), Ended(1, 5, api.ByOwner), Traded(1, 2, api.Buy, 1, 2), Acked(order(1, 7, api.Buy, 1, 3)), Traded(2, 1, api.Sell, 1, 2)}
	a, b := desk(t, 7), desk(t, 7)
	a.Behind(l)
	for _, e := range l {
		b.Behind([]api.Event{e})
	}
	Same(t, "Standing", stands(t, a, 7), api.Standing{Limits: free(), Buys: 1, Count: 1, Bought: 2})
	Same(t, "one by one", state(b), state(a))
}

func TestP21_3Examples(t *testing.T) {
	d := risk.New()
	Same(t, "Set", d.Set(7, tight()), api.OK)
	asks(t, d, order(1, 8, api.Buy, 10, 1), api.ErrMember)
	asks(t, d, order(1, 7, api.Buy, 10, 11), api.ErrOrder)
	asks(t, d, order(1, 7, api.Buy, 10, 10), api.OK)
	opens(d, 1, 7, api.Buy, 10)
	Same(t, "Standing", stands(t, d, 7), api.Standing{Limits: tight(), Buys: 10, Count: 1})
	asks(t, d, order(2, 7, api.Buy, 10, 6), api.ErrOpened)
	asks(t, d, order(2, 7, api.Buy, 10, 5), api.ErrPosition)
	asks(t, d, order(2, 7, api.Sell, 200, 6), api.ErrOpened)
	asks(t, d, order(2, 7, api.Sell, 200, 5), api.OK)
	asks(t, d, order(2, 7, api.Sell, 201, 5), api.ErrWorth)
	d.Behind(Numbered(0, Traded(99, 1, api.Sell, 10, 4)))
	Same(t, "Standing", stands(t, d, 7), api.Standing{Limits: tight(), Buys: 6, Count: 1, Bought: 4})
	asks(t, d, moves(1, 3, 8, 1, 1), api.ErrOwner)
	l, why := d.Kill(7)
	SameList(t, "Kill", l, []uint64{1})
	Same(t, "Kill", why, api.OK)
	asks(t, d, order(2, 7, api.Sell, 200, 5), api.ErrKilled)
	asks(t, d, By(Cancel(1), 7), api.OK)
}

// No list is shared: neither what is answered nor what is told.
func TestP21_1Memory(t *testing.T) {
	d := desk(t, 1, 2, 7)
	for i := range 9 {
		l := append(make([]api.Event, 0, 8), Acked(order(uint64(i), 7, api.Buy, 10, 2)), Acked(order(uint64(20+i), 1, api.Sell, 10, 2)))
		kept := slices.Clone(l[:cap(l)])
		d.Behind(l)
		SameList(t, "what was told", l[:cap(l)], kept)
		before := state(d)
		Spoil(l, Ended(uint64(i), 2, api.ByOwner))
		open, members := d.Open(7), d.Members()
		killed, _ := d.Kill(7)
		Same(t, "Revive", d.Revive(7), api.OK)
		Spoil(d.Open(7), 99)
		Spoil(d.Members(), 99)
		again, _ := d.Kill(7)
		Spoil(again, 99)
		Same(t, "Revive", d.Revive(7), api.OK)
		SameList(t, "Open", open, d.Open(7))
		SameList(t, "Kill", killed, d.Open(7))
		SameList(t, "Members", members, d.Members())
		Same(t, "what it keeps", state(d), before)
	}
}

// Two desks know nothing of one another.
func TestP21_1Apart(t *testing.T) {
	a, b := risk.New(), risk.New()
	a.Set(7, tight())
	opens(a, 1, 7, api.Buy, 5)
	a.Kill(7)
	Same(t, "what the other one keeps", state(b), state(risk.New()))
	asks(t, b, order(2, 7, api.Buy, 1, 1), api.ErrMember)
}

// A desk that New has not made answers something, and does not panic.
func TestP21_1Zero(t *testing.T) {
	for _, begin := range []func(d *risk.Desk){
		func(d *risk.Desk) { d.Set(7, free()) },
		func(d *risk.Desk) { opens(d, 1, 7, api.Buy, 5) },
		func(d *risk.Desk) { d.Behind([]api.Event{Traded(1, 2, api.Buy, 1, 1), Ended(1, 1, api.ByOwner)}) },
		func(d *risk.Desk) { d.Kill(7) },
		func(d *risk.Desk) { d.Revive(7) },
		func(d *risk.Desk) { d.Ahead(moves(1, 2, 7, 1, 1)) },
	} {
		var d risk.Desk
		state(&d)
		begin(&d)
		state(&d)
		d.Set(7, free())
		opens(&d, 1, 7, api.Buy, 5)
		d.Ahead(moves(1, 2, 7, 1, 1))
		d.Behind([]api.Event{Traded(1, 2, api.Buy, 1, 1)})
		state(&d)
	}
}
