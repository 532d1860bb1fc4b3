package surveil_test

import (
	"math"
	"testing"

	"bourse/api"
	. "bourse/sample"
)

// ofRatio and ofWash are cases that are open.
func ofRatio(member uint32, first, last uint64, count int) api.Case {
	return api.Case{Rule: api.RuleRatio, Member: member, First: first, Last: last, Count: count, Open: true}
}

func ofWash(member uint32, first, last uint64, count int) api.Case {
	return api.Case{Rule: api.RuleWash, Member: member, First: first, Last: last, Count: count, Open: true}
}

func shut(c api.Case) api.Case {
	c.Open = false
	return c
}

func TestP29_3Profile(t *testing.T) {
	w := watch(t, usual())
	w.Add([]api.Event{
		acked(1, 9, api.Buy), acked(2, 3, api.Sell), acked(3, last, api.Buy), acked(4, 3, api.Sell), acked(5, 0, api.Buy),
		Traded(1, 2, api.Buy, 10, 4), Traded(2, 3, api.Sell, 10, 5), Ended(4, 1, api.ByOwner), Ended(2, 1, 2), Ended(1, 1, api.ByOwner), {Kind: 9, ID: 1, Member: 4},
		acked(6, 3, api.Sell), acked(7, 3, api.Sell), acked(8, 3, api.Sell), acked(9, 3, api.Sell), acked(10, 3, api.Sell),
	})
	SameList(t, "Members", w.Members(), []uint32{3, 9, last})
	Same(t, "Profile", w.Profile(9), api.Profile{Orders: 1, Cancels: 1, Trades: 1, Bought: 4})
	Same(t, "Profile", w.Profile(3), api.Profile{Orders: 7, Cancels: 1, Trades: 2, Sold: 9, Alerts: 1})
	Same(t, "Profile", w.Profile(last), api.Profile{Orders: 1, Trades: 1, Bought: 5})
	for _, n := range []uint32{0, 4, 8, 10, last - 1} {
		Same(t, "Profile", w.Profile(n), api.Profile{})
	}
}

// An alert that is at most five events behind the last one belongs to its case; one that is farther off opens another.
func TestP29_4Near(t *testing.T) {
	for between, near := range map[int]bool{0: true, 3: true, 4: true, 5: false, 6: false, 30: false} {
		w := watch(t, usual())
		w.Add(append(orders(1, 5, 9), idle(between)...))
		at := uint64(6 + between)
		finds(t, w, orders(6, 1, 9), alert(api.RuleRatio, 9, at, 6, 6))
		if near {
			SameList(t, "Cases", w.Cases(), []api.Case{ofRatio(9, 4, at, 3)})
		} else {
			SameList(t, "Cases", w.Cases(), []api.Case{ofRatio(9, 4, 5, 2), ofRatio(9, at, at, 1)})
		}
	}
}

// Cases are of one rule and one member each, in the order in which they were opened.
func TestP29_4Cases(t *testing.T) {
	w := watch(t, usual())
	w.Add(append(orders(1, 4, 9), orders(5, 4, 8)...))
	w.Add([]api.Event{traded(1, 2, 10), traded(5, 6, 10), traded(3, 4, 10)})
	w.Add([]api.Event{acked(20, 8, api.Buy)}) // 5 orders and 2 trades: no alert
	SameList(t, "Cases", w.Cases(), []api.Case{ofRatio(9, 4, 4, 1), ofRatio(8, 8, 8, 1), ofWash(9, 9, 11, 2), ofWash(8, 10, 10, 1)})
	w.Add([]api.Event{Traded(20, 5, api.Sell, 21, 1)})
	jump := api.Case{Rule: api.RuleJump, Member: 8, First: 13, Last: 13, Count: 1, Open: true}
	SameList(t, "Cases", w.Cases(), []api.Case{ofRatio(9, 4, 4, 1), ofRatio(8, 8, 8, 1), ofWash(9, 9, 11, 2), ofWash(8, 10, 13, 2), jump})
}

func TestP29_4Close(t *testing.T) {
	w := watch(t, usual())
	closes := func(rule int, member uint32, want int, whyWant api.Errno) {
		t.Helper()
		n, why := w.Close(rule, member)
		Same(t, "Close", n, want)
		Same(t, "Close", why, whyWant)
	}
	closes(api.RuleRatio, 9, 0, api.ErrCase)
	w.Add(append(append(append(orders(1, 4, 9), traded(1, 2, 10)), idle(9)...), traded(1, 2, 10)))
	w.Add(idle(1))
	all := []api.Case{ofRatio(9, 4, 4, 1), ofWash(9, 5, 5, 1), ofWash(9, 15, 15, 1)}
	SameList(t, "Cases", w.Cases(), all)
	for _, rule := range []int{math.MinInt, -1, 0, api.RuleLayer, api.RuleJump, 5, 1<<32 + 1, math.MaxInt} {
		closes(rule, 9, 0, api.ErrCase)
	}
	for _, n := range []uint32{0, 8, last} {
		closes(api.RuleWash, n, 0, api.ErrCase)
	}
	SameList(t, "Cases", w.Cases(), all)
	closes(api.RuleWash, 9, 2, api.OK) // the first one was left open
	closes(api.RuleWash, 9, 0, api.ErrCase)
	all[1], all[2] = shut(all[1]), shut(all[2])
	SameList(t, "Cases", w.Cases(), all)
	// The next one opens another case, however near.
	finds(t, w, []api.Event{traded(1, 2, 10), traded(1, 2, 10)}, alert(api.RuleWash, 9, 17, 1, 0), alert(api.RuleWash, 9, 18, 1, 0))
	all = append(all, ofWash(9, 17, 18, 2))
	SameList(t, "Cases", w.Cases(), all)
	closes(api.RuleWash, 9, 1, api.OK) // those that are closed are not counted anew
	closes(api.RuleRatio, 9, 1, api.OK)
	all[0], all[3] = shut(all[0]), shut(all[3])
	SameList(t, "Cases", w.Cases(), all)
	Same(t, "Profile", w.Profile(9), api.Profile{Orders: 4, Trades: 8, Bought: 4, Sold: 4, Alerts: 5})
	Same(t, "Count", w.Count(), 18)
}
