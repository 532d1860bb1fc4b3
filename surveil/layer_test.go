package surveil_test

import (
	"math"
	"testing"

	"bourse/api"
	. "bourse/sample"
	"bourse/surveil"
)

// layers is a watch that was told of three orders of the member 7 on a side, one of 8, and one of 7 on the other side: 9 events.
func layers(t *testing.T, side int) *surveil.Watch {
	t.Helper()
	w := watch(t, api.Watching{Span: 6, Layers: 2, Ratio: 1000, Least: 1000, Move: api.Ticks})
	finds(t, w, []api.Event{acked(1, 7, side), acked(2, 7, side), acked(3, 7, side), acked(4, 8, side), acked(5, 7, api.Buy+api.Sell-side)})
	return w
}

// bought and sold are trades in which the member 7 does so; its order 5 is the one that comes, or the one that rests.
func bought(came bool) api.Event {
	if came {
		return Traded(5, 4, api.Buy, 10, 1)
	}
	return Traded(4, 5, api.Sell, 10, 1)
}

func sold(came bool) api.Event {
	if came {
		return Traded(5, 4, api.Sell, 10, 1)
	}
	return Traded(4, 5, api.Buy, 10, 1)
}

func TestP29_2Layer(t *testing.T) {
	for _, came := range []bool{false, true} {
		for _, x := range []struct {
			side  int
			trade api.Event
			found bool
		}{
			{api.Buy, sold(came), true}, {api.Buy, bought(came), false}, {api.Sell, sold(came), false}, {api.Sell, bought(came), true},
			{0, bought(came), true}, {0, sold(came), false}, {3, bought(came), true}, {-1, sold(came), false}, {math.MaxInt, bought(came), true},
		} {
			var want []api.Alert
			w := layers(t, x.side)
			finds(t, w, []api.Event{x.trade, pulled(1)})
			if x.found {
				want = []api.Alert{alert(api.RuleLayer, 7, 8, 3, 2)}
			}
			finds(t, w, []api.Event{pulled(3)}, want...)
			if x.found {
				want = []api.Alert{alert(api.RuleLayer, 7, 9, 2, 3)}
			}
			finds(t, w, []api.Event{pulled(2)}, want...)
		}
	}
}

// The trade may stand ahead of the cancels or among them; it must be one of the last six events, the cancel itself counted in.
func TestP29_2LayerTrade(t *testing.T) {
	w := layers(t, api.Sell)
	finds(t, w, []api.Event{pulled(1), pulled(2)})
	finds(t, w, []api.Event{bought(true), pulled(3)}, alert(api.RuleLayer, 7, 9, 3, 3))
	for between, found := range map[int]bool{3: true, 4: false, 5: false} {
		w := layers(t, api.Sell)
		finds(t, w, append([]api.Event{bought(true), pulled(1)}, idle(between)...))
		l := w.Add([]api.Event{pulled(2)})
		Same(t, "Layer", len(l) == 1 && l[0] == alert(api.RuleLayer, 7, uint64(8+between), 2, 2), found)
		Same(t, "Layer", len(l) == 0, !found)
	}
	// A later trade on the same side does not hide an earlier one on the other.
	w = layers(t, api.Sell)
	finds(t, w, []api.Event{bought(true), sold(true), pulled(1)})
	finds(t, w, []api.Event{pulled(2)}, alert(api.RuleLayer, 7, 9, 2, 2))
	// The trades of others are none.
	w = layers(t, api.Sell)
	finds(t, w, []api.Event{acked(6, 9, api.Buy), Traded(6, 4, api.Buy, 10, 1), pulled(1), pulled(2)})
}

// The cancels, too, must be among the last six events.
func TestP29_2LayerSpan(t *testing.T) {
	for between, found := range map[int]bool{3: true, 4: false, 9: false} {
		w := layers(t, api.Buy)
		finds(t, w, append(append([]api.Event{pulled(1)}, idle(between)...), sold(false)))
		l := w.Add([]api.Event{pulled(2)})
		Same(t, "Layer", len(l) == 1 && l[0] == alert(api.RuleLayer, 7, uint64(8+between), 2, 2), found)
		Same(t, "Layer", len(l) == 0, !found)
	}
	// What fell out of the last events and what comes anew are counted as they stand.
	w := layers(t, api.Buy)
	finds(t, w, []api.Event{sold(true), pulled(1)})
	finds(t, w, []api.Event{pulled(2), pulled(3)}, alert(api.RuleLayer, 7, 8, 2, 2), alert(api.RuleLayer, 7, 9, 3, 3))
	finds(t, w, append(idle(2), sold(true)))
	finds(t, w, []api.Event{pulled(1)}, alert(api.RuleLayer, 7, 13, 1, 3))
	finds(t, w, append(idle(3), sold(true)))
	finds(t, w, []api.Event{pulled(2)}, alert(api.RuleLayer, 7, 18, 2, 2))
}

// Only cancels by the owner count, of orders that are known and have not traded, of that member and that side.
func TestP29_2LayerCount(t *testing.T) {
	for _, x := range []struct {
		first api.Event
		k     int
	}{
		{pulled(2), 2}, {pulled(1), 2}, {pulled(4), 1}, {pulled(5), 1}, {pulled(9), 1}, {pulled(0), 1}, {api.Event{Kind: api.EvCancel, ID: 2}, 1},
		{Ended(2, 1, 2), 1}, {Ended(2, 1, 3), 1}, {Ended(2, 1, 4), 1}, {Ended(2, 1, 5), 1}, {Ended(2, 1, -1), 1}, {api.Event{Kind: api.EvReject, ID: 2, Reason: api.ByOwner}, 1},
	} {
		w := layers(t, api.Buy)
		finds(t, w, []api.Event{sold(true), x.first})
		l := w.Add([]api.Event{pulled(1)})
		Same(t, "Layer", len(l) == 1 && l[0] == alert(api.RuleLayer, 7, 8, 1, 2), x.k == 2)
		Same(t, "Layer", len(l) == 0, x.k == 1)
	}
	// One that traded, as the one that came or the one that rested, is none itself, and none of those that are counted.
	for _, trade := range []api.Event{Traded(2, 4, api.Buy, 10, 1), Traded(4, 2, api.Sell, 10, 1), Traded(2, 99, api.Buy, 10, 1)} {
		w := layers(t, api.Buy)
		finds(t, w, []api.Event{sold(true), trade, pulled(1), pulled(2)})
		finds(t, w, []api.Event{pulled(3)}, alert(api.RuleLayer, 7, 10, 3, 2))
	}
	// One that traded only behind its cancel counts.
	w := layers(t, api.Buy)
	finds(t, w, []api.Event{pulled(2), Traded(2, 4, api.Buy, 10, 1), sold(true)})
	finds(t, w, []api.Event{pulled(1)}, alert(api.RuleLayer, 7, 9, 1, 2))
	// And one that was acked anew, on the other side, counts for the side that it had.
	w = layers(t, api.Buy)
	finds(t, w, []api.Event{pulled(2), acked(2, 8, api.Sell), sold(true)})
	finds(t, w, []api.Event{pulled(1)}, alert(api.RuleLayer, 7, 9, 1, 2))
	Same(t, "Cancels", w.Profile(7).Cancels, 2)
}
