package surveil_test

import (
	"math"
	"slices"
	"testing"

	"bourse/api"
	. "bourse/sample"
	"bourse/surveil"
)

func TestP29_1New(t *testing.T) {
	for _, x := range []struct {
		how api.Watching
		ok  bool
	}{
		{usual(), true},
		{quiet(), true},
		{api.Watching{Span: 1, Layers: 1, Ratio: 1, Least: 1, Move: 1}, true},
		{api.Watching{Span: 1000, Layers: 1, Ratio: 1000, Least: 1, Move: 1 << 18}, true},
		{api.Watching{}, false},
		{api.Watching{Span: 1001, Layers: 1, Ratio: 1, Least: 1, Move: 1}, false},
		{api.Watching{Span: 5, Layers: 6, Ratio: 1, Least: 1, Move: 1}, false},
		{api.Watching{Span: 1000, Layers: 1001, Ratio: 1, Least: 1, Move: 1}, false},
		{api.Watching{Span: 5, Layers: 5, Ratio: 1001, Least: 1, Move: 1}, false},
		{api.Watching{Span: 5, Layers: 5, Ratio: 1, Least: 1001, Move: 1}, false},
		{api.Watching{Span: 5, Layers: 5, Ratio: 1, Least: 1, Move: 1<<18 + 1}, false},
	} {
		w, why := surveil.New(x.how)
		Same(t, "New", why == api.OK, x.ok)
		Same(t, "New", w != nil, x.ok)
		if !x.ok {
			Same(t, "New", why, api.ErrArg)
			continue
		}
		agrees(t, w, &model{how: x.how})
	}
	for _, wrong := range []int{math.MinInt, math.MinInt32, -1, 0, math.MaxInt32, math.MaxInt} {
		for i := range 5 {
			how := usual()
			*[]*int{&how.Span, &how.Layers, &how.Ratio, &how.Least, &how.Move}[i] = wrong
			w, why := surveil.New(how)
			Same(t, "New", why, api.ErrArg)
			Same(t, "New", w == nil, true)
		}
	}
}

// All events count, whatever they are, and their own numbers play no part.
func TestP29_1Count(t *testing.T) {
	w := watch(t, usual())
	finds(t, w, nil)
	Same(t, "Count", w.Count(), 0)
	finds(t, w, []api.Event{{}, {Kind: -1, Seq: 9}, {Kind: 99, Seq: 3}})
	Same(t, "Count", w.Count(), 3)
	e := acked(1, 7, api.Buy)
	e.Seq = 77
	finds(t, w, []api.Event{e, {Kind: api.EvReject, ID: 1}, {Kind: api.EvRefresh, ID: 1}, pulled(8)})
	Same(t, "Count", w.Count(), 7)
	finds(t, w, []api.Event{acked(2, 7, api.Sell), traded(2, 1, 10)}, alert(api.RuleWash, 7, 9, 2, 0))
	SameList(t, "Members", w.Members(), []uint32{7})
}

// The four examples of the chapter.
func TestP29_2Examples(t *testing.T) {
	w := watch(t, usual())
	finds(t, w, []api.Event{acked(1, 7, api.Sell), acked(2, 7, api.Buy), traded(2, 1, 100)}, alert(api.RuleWash, 7, 3, 2, 0))
	Same(t, "Profile", w.Profile(7), api.Profile{Orders: 2, Trades: 2, Bought: 1, Sold: 1, Alerts: 1})

	w = watch(t, usual())
	finds(t, w, []api.Event{acked(1, 7, api.Sell), acked(2, 7, api.Sell), acked(3, 7, api.Buy), acked(4, 8, api.Sell), traded(3, 4, 100), pulled(1)})
	finds(t, w, []api.Event{pulled(2)}, alert(api.RuleLayer, 7, 7, 2, 2))

	w = watch(t, usual())
	finds(t, w, []api.Event{acked(1, 9, api.Buy), acked(2, 9, api.Sell), acked(3, 9, api.Buy)})
	finds(t, w, []api.Event{acked(4, 9, api.Buy), acked(5, 9, api.Sell)}, alert(api.RuleRatio, 9, 4, 4, 4), alert(api.RuleRatio, 9, 5, 5, 5))
	SameList(t, "Cases", w.Cases(), []api.Case{{Rule: api.RuleRatio, Member: 9, First: 4, Last: 5, Count: 2, Open: true}})

	for price, found := range map[int]bool{110: false, 111: true} {
		w = watch(t, usual())
		finds(t, w, []api.Event{acked(1, 7, api.Buy), acked(2, 8, api.Sell), traded(1, 2, 100)})
		l := w.Add([]api.Event{traded(1, 2, price)})
		Same(t, "Jump", slices.Equal(l, []api.Alert{alert(api.RuleJump, 7, 4, 1, 11)}), found)
		Same(t, "Jump", len(l) == 0, !found)
	}
}

// orders is that many of a member's, from the ID first on.
func orders(first uint64, n int, member uint32) []api.Event {
	var l []api.Event
	for i := range uint64(n) {
		l = append(l, acked(first+i, member, api.Buy))
	}
	return l
}

// With two trades of two orders, from 3 x 4 + 1 orders on there are too many.
func TestP29_2Ratio(t *testing.T) {
	w := watch(t, usual())
	finds(t, w, append(orders(1, 3, 8), traded(1, 2, 10), traded(3, 2, 10)),
		alert(api.RuleWash, 8, 4, 1, 0), alert(api.RuleWash, 8, 5, 3, 0))
	Same(t, "Profile", w.Profile(8), api.Profile{Orders: 3, Trades: 4, Bought: 2, Sold: 2, Alerts: 2})
	finds(t, w, orders(4, 9, 8))
	finds(t, w, orders(50, 3, 7)) // those of others play no part
	finds(t, w, orders(13, 1, 8), alert(api.RuleRatio, 8, 18, 13, 13))
	finds(t, w, []api.Event{traded(13, 53, 10)}) // 53 is not known
	finds(t, w, orders(14, 2, 8))
	finds(t, w, orders(16, 1, 8), alert(api.RuleRatio, 8, 22, 16, 16))
}

// Below Least none are too many; at Least they may be.
func TestP29_2Least(t *testing.T) {
	how := api.Watching{Span: 1, Layers: 1, Ratio: 1, Least: 1, Move: 1}
	finds(t, watch(t, how), orders(1, 1, last), alert(api.RuleRatio, last, 1, 1, 1))
	how.Least, how.Ratio = 1000, 1000
	w := watch(t, how)
	finds(t, w, orders(1, 999, last))
	finds(t, w, orders(1000, 1, last), alert(api.RuleRatio, last, 1000, 1000, 1000))
	w = watch(t, how)
	finds(t, w, append(append(orders(1, 1, last), traded(1, 0, 10)), orders(2, 999, last)...))
	finds(t, w, orders(1001, 1, last), alert(api.RuleRatio, last, 1002, 1001, 1001))
}

// An order that is acked anew is another one: of another member, on another side, and without a trade.
func TestP29_2Anew(t *testing.T) {
	how := usual()
	how.Span, how.Layers = 20, 1
	w := watch(t, how)
	finds(t, w, []api.Event{acked(1, 7, api.Buy), acked(2, 8, api.Sell), traded(1, 2, 10), pulled(1)})
	finds(t, w, []api.Event{acked(1, 8, api.Buy), traded(2, 1, 10), pulled(1)}, alert(api.RuleWash, 8, 6, 2, 0))
	Same(t, "Profile", w.Profile(7), api.Profile{Orders: 1, Cancels: 1, Trades: 1, Bought: 1})
	Same(t, "Profile", w.Profile(8), api.Profile{Orders: 2, Cancels: 1, Trades: 3, Bought: 1, Sold: 2, Alerts: 1})
	finds(t, w, []api.Event{acked(1, 8, api.Buy), pulled(1)}, alert(api.RuleLayer, 8, 9, 1, 1)) // it never traded
	finds(t, w, []api.Event{pulled(1)}, alert(api.RuleLayer, 8, 10, 1, 2))                      // and is known for ever
	finds(t, w, []api.Event{acked(1, 8, api.Sell), pulled(1)}, alert(api.RuleLayer, 8, 12, 1, 1))
}

// Who buys hangs on the event's Side; what is not Buy sells.
func TestP29_2Sides(t *testing.T) {
	for _, side := range []int{api.Buy, api.Sell, 0, -1, 3, 1<<32 + 1, math.MinInt, math.MaxInt} {
		w := watch(t, usual())
		finds(t, w, []api.Event{acked(1, 7, 9), acked(2, 8, -4), Traded(2, 1, side, 10, top), Traded(2, 1, side, 10, 3)})
		had := []api.Profile{{Orders: 1, Trades: 2, Bought: 2}, {Orders: 1, Trades: 2, Sold: 2}} // modulo 2^64
		if side == api.Buy {
			had[0], had[1] = had[1], had[0]
		}
		Same(t, "Profile", w.Profile(7), had[0])
		Same(t, "Profile", w.Profile(8), had[1])
	}
}

// An order that is not known is nobody's, and nobody has alerts; a member that has none of the orders is not told of.
func TestP29_2Nobody(t *testing.T) {
	how := api.Watching{Span: 5, Layers: 1, Ratio: 1, Least: 1, Move: 1}
	w := watch(t, how)
	finds(t, w, []api.Event{traded(1, 2, 10), traded(3, 3, 90), pulled(1)})
	finds(t, w, append(orders(1, 4, 0), traded(1, 2, 10), traded(1, 1, 90), pulled(3), pulled(4)))
	SameList(t, "Members", w.Members(), nil)
	Same(t, "Profile", w.Profile(0), api.Profile{})
	SameList(t, "Cases", w.Cases(), nil)
	Same(t, "Count", w.Count(), 11)
	// Its trades are among those by which a jump is told, though.
	w = watch(t, usual())
	finds(t, w, []api.Event{traded(1, 2, 10), acked(5, 7, api.Buy), traded(5, 1, 21)}, alert(api.RuleJump, 7, 3, 5, 11))
	finds(t, w, []api.Event{traded(1, 5, 50)}) // the one that came is nobody's
	Same(t, "Profile", w.Profile(7), api.Profile{Orders: 1, Trades: 2, Bought: 1, Sold: 1, Alerts: 1})
}

func TestP29_2Wash(t *testing.T) {
	w := watch(t, usual())
	finds(t, w, []api.Event{acked(1, 7, api.Buy), acked(2, 8, api.Sell), acked(3, 7, api.Buy)})
	finds(t, w, []api.Event{traded(1, 2, 10), traded(2, 1, 10), traded(4, 1, 10), traded(1, 4, 10)})
	finds(t, w, []api.Event{traded(1, 3, 10)}, alert(api.RuleWash, 7, 8, 1, 0))
	finds(t, w, []api.Event{traded(3, 3, 10)}, alert(api.RuleWash, 7, 9, 3, 0)) // whatever a book would tell
	finds(t, w, []api.Event{Traded(2, 2, 9, 21, 5)}, alert(api.RuleWash, 8, 10, 2, 0), alert(api.RuleJump, 8, 10, 2, 11))
	Same(t, "Profile", w.Profile(8), api.Profile{Orders: 1, Trades: 4, Bought: 6, Sold: 6, Alerts: 2})
}

// The price is held against that of the first trade among the last five events, whoever traded.
func TestP29_2Jump(t *testing.T) {
	for _, x := range []struct{ between, from, to, far int }{
		{0, 100, 111, 11}, {3, 100, 111, 11}, {4, 100, 111, 0}, {5, 100, 111, 0}, {9, 100, 999, 0},
		{0, 111, 100, 11}, {3, 111, 100, 11}, {4, 111, 100, 0}, {0, 110, 100, 0}, {0, 100, 110, 0},
		{0, 0, api.Ticks - 1, api.Ticks - 1}, {0, -1, 11, 11}, {0, -1, 10, 0}, {0, api.Ticks, 11, 11}, {0, 10, api.Ticks, 0}, {0, 11, api.Ticks, 11},
		{0, math.MaxInt, math.MinInt, 0}, {0, math.MinInt, 11, 11}, {0, 11, math.MaxInt, 11}, {0, api.Ticks - 1, math.MaxInt, api.Ticks - 1},
	} {
		w := watch(t, usual())
		finds(t, w, []api.Event{acked(1, 7, api.Buy), acked(2, 8, api.Sell)})
		finds(t, w, append([]api.Event{traded(2, 1, x.from)}, idle(x.between)...))
		var want []api.Alert
		if x.far > 0 {
			want = []api.Alert{alert(api.RuleJump, 7, uint64(4+x.between), 1, x.far)}
		}
		finds(t, w, []api.Event{traded(1, 2, x.to)}, want...)
	}
	// It is the first of them and no other: 100 here, then 108.
	w := watch(t, usual())
	finds(t, w, []api.Event{acked(1, 7, api.Buy), acked(2, 8, api.Sell), traded(1, 2, 100), traded(1, 2, 108), traded(1, 2, 110), traded(1, 2, 104), traded(1, 2, 110)})
	finds(t, w, []api.Event{traded(1, 2, 118), traded(1, 2, 121)}, alert(api.RuleJump, 7, 9, 1, 11))
	for move, far := range map[int]int{api.Ticks - 1: 0, api.Ticks: 0, api.Ticks - 2: api.Ticks - 1} {
		how := usual()
		how.Move = move
		w := watch(t, how)
		l := w.Add([]api.Event{acked(1, 7, api.Buy), traded(1, 2, 0), traded(1, 2, api.Ticks-1)})
		Same(t, "Jump", len(l) == 1 && l[0].Count == far, far > 0)
	}
}

// Of a span of one event there is no trade ahead: nothing jumps, and no layer can be.
func TestP29_2One(t *testing.T) {
	w := watch(t, api.Watching{Span: 1, Layers: 1, Ratio: 9, Least: 9, Move: 1})
	finds(t, w, []api.Event{acked(1, 7, api.Buy), acked(2, 8, api.Sell), acked(3, 8, api.Buy), traded(1, 2, 10), traded(1, 2, 99), pulled(3), pulled(3)})
	Same(t, "Profile", w.Profile(8), api.Profile{Orders: 2, Cancels: 2, Trades: 2, Sold: 2})
}
