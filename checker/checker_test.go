package checker_test

import (
	"math"
	"slices"
	"testing"

	"bourse/api"
	"bourse/checker"
	. "bourse/sample"
)

var four = api.Config{Capacity: 4}

func TestP19_1Configs(t *testing.T) {
	for _, capacity := range []int{math.MinInt, -1, 0, 1, 2, api.MaxOrders - 1, api.MaxOrders, api.MaxOrders + 1, math.MaxInt} {
		for _, meet := range []int{math.MinInt, -1, 0, 1, 2, 3, 4, math.MaxInt} {
			c := api.Config{Capacity: capacity, Meet: meet}
			x, why := checker.New(c)
			n, whole := checker.Check(c, Numbered(0, Acked(Buy(1, 2, 3))))
			if capacity >= 1 && capacity <= 4096 && meet >= 0 && meet <= 3 {
				Same(t, "New", why, api.OK)
				tells(t, x, api.Book{Config: c})
				Same(t, "Open", x.Open(), false)
				Same(t, "Check", whole, api.OK)
				Same(t, "Check", n, 1)
			} else if x != nil || why != api.ErrArg || n != 0 || whole != api.ErrArg {
				t.Fatalf("%+v: New: %v, %v; Check: %d, %v", c, x, why, n, whole)
			}
		}
	}
}

func TestP19_1OpenAndBookInTheMidst(t *testing.T) {
	x := made(t, four)
	iceberg, last, comes := Peaked(Sell(1, 10, 10), 4), Sell(2, 10, 1), Buy(3, 11, 20)
	adds(t, x, Acked(iceberg), Acked(last))
	two := []api.Resting{rest(iceberg, 4, 6), rest(last, 1, 0)}
	tells(t, x, api.Book{Config: four, Sells: two, High: 2, Seq: 2})
	for _, step := range []struct {
		event api.Event
		sells []api.Resting
	}{
		{Acked(comes), two},
		// What is traded with last shows nothing until it is refreshed, and stands where it stood.
		{Traded(3, 1, api.Buy, 10, 4), []api.Resting{rest(iceberg, 0, 6), rest(last, 1, 0)}},
		{Refreshed(1, 10, 4), []api.Resting{rest(last, 1, 0), rest(iceberg, 4, 2)}},
		{Traded(3, 2, api.Buy, 10, 1), []api.Resting{rest(iceberg, 4, 2)}},
		{Traded(3, 1, api.Buy, 10, 4), []api.Resting{rest(iceberg, 0, 2)}},
		{Refreshed(1, 10, 2), []api.Resting{rest(iceberg, 2, 0)}},
	} {
		adds(t, x, step.event)
		Same(t, "Open", x.Open(), true)
		tells(t, x, api.Book{Config: four, Sells: step.sells, High: 3, Seq: x.Book().Seq})
	}
	adds(t, x, Traded(3, 1, api.Buy, 10, 2))
	Same(t, "Open", x.Open(), false)
	tells(t, x, api.Book{Config: four, Buys: []api.Resting{rest(comes, 9, 0)}, High: 3, Seq: 9})
	adds(t, x, Ended(3, 9, api.ByReplace))
	Same(t, "Open", x.Open(), true)
	tells(t, x, api.Book{Config: four, High: 3, Seq: 10})
}

func TestP19_1BooksAreNewMemory(t *testing.T) {
	x := made(t, four)
	adds(t, x, Acked(Buy(1, 9, 5)), Acked(Sell(2, 10, 5)))
	a := x.Book()
	want := api.Book{Config: four, Buys: slices.Clone(a.Buys), Sells: slices.Clone(a.Sells), High: 2, Seq: 2}
	b := x.Book()
	Spoil(a.Buys, api.Resting{ID: 99})
	Spoil(a.Sells, api.Resting{ID: 99})
	if !SameBook(b, want) {
		t.Fatalf("two answers share memory: %+v", b)
	}
	tells(t, x, want)
	adds(t, x, Acked(Buy(3, 10, 9)), Traded(3, 2, api.Buy, 10, 5))
	if !SameBook(b, want) {
		t.Fatalf("an answer shares memory with its checker: %+v", b)
	}
}

func TestP19_2Numbers(t *testing.T) {
	x := made(t, four)
	for _, seq := range []uint64{0, 2, 3, math.MaxUint64} {
		e := Acked(Buy(1, 9, 5))
		e.Seq = seq
		Same(t, "Add", x.Add(e), api.ErrSeq)
		Same(t, "Add", x.Add(api.Event{Seq: seq, Kind: 77}), api.ErrSeq)
	}
	tells(t, x, api.Book{Config: four})
	// In the midst of a command a wrong number comes ahead of all else, too.
	adds(t, x, Acked(Order(1, api.Buy, api.Market, 0, 5)))
	Same(t, "Add", x.Add(api.Event{Seq: 1, Kind: 77}), api.ErrSeq)
	adds(t, x, Ended(1, 5, api.ByRest), Acked(Buy(2, 9, 5)), Ended(2, 5, api.ByReplace))
	Same(t, "Add", x.Add(api.Event{Seq: 6, Kind: 77}), api.ErrSeq)
	adds(t, x, Acked(Buy(3, 9, 5)))
}

func TestP19_2BehindAReplace(t *testing.T) {
	c := api.Config{Capacity: 2}
	opened := func(kind int) *checker.Checker {
		x := made(t, c)
		adds(t, x, Acked(By(Order(1, api.Buy, kind, 9, 5), 7)), Acked(Sell(2, 12, 5)), Ended(1, 5, api.ByReplace))
		return x
	}
	good := Acked(By(Buy(3, 9, 5), 7))
	for _, turn := range []func(e *api.Event){
		func(e *api.Event) { *e = Ended(2, 5, api.ByOwner) },
		func(e *api.Event) { *e = Ended(2, 5, api.ByReplace) },
		func(e *api.Event) { *e = Ended(2, 5, api.ByRest) },
		func(e *api.Event) { *e = api.Event{Kind: api.EvReject, Code: api.ErrKind} },
		func(e *api.Event) { e.Kind = 0 },
		func(e *api.Event) { e.Kind = api.EvRefresh },
		func(e *api.Event) { e.Member = 0 },
		func(e *api.Event) { e.Member = 8 },
		func(e *api.Event) { e.Side = api.Sell },
		func(e *api.Event) { e.Side = 0 },
		func(e *api.Event) { e.Type = api.PostOnly },
		func(e *api.Event) { e.Type = api.IOC },
		func(e *api.Event) { e.ID = 2 },
		func(e *api.Event) { e.ID = 1 },
		func(e *api.Event) { e.ID = 0 },
		func(e *api.Event) { e.Price = -1 },
		func(e *api.Event) { e.Price = api.Ticks },
		func(e *api.Event) { e.Qty = 0 },
		func(e *api.Event) { e.Qty = api.MaxQty + 1 },
		func(e *api.Event) { e.Peak = 6 },
		func(e *api.Event) { e.Qty, e.Peak = 257, 1 },
		func(e *api.Event) { e.Other = 1 },
		func(e *api.Event) { e.Target = 1 },
		func(e *api.Event) { e.Reason = api.ByReplace },
		func(e *api.Event) { e.Code = 1 },
	} {
		x := opened(api.Limit)
		e := good
		turn(&e)
		refuses(t, x, e, api.ErrPlace)
		adds(t, x, good)
		Same(t, "Open", x.Open(), false)
	}
	// Another price, quantity and peak may come, and it trades as any other one; a PostOnly may not.
	x := opened(api.Limit)
	adds(t, x, Acked(Peaked(By(Buy(9, 12, 8), 7), 2)), Traded(9, 2, api.Buy, 12, 5))
	tells(t, x, api.Book{Config: c, Buys: []api.Resting{{ID: 9, Member: 7, Type: api.Limit, Price: 12, Visible: 2, Hidden: 1, Peak: 2}}, High: 9, Seq: 5})
	x = opened(api.PostOnly)
	refuses(t, x, Acked(By(Order(3, api.Buy, api.PostOnly, 12, 5), 7)), api.ErrPlace)
	adds(t, x, Acked(By(Order(3, api.Buy, api.PostOnly, 11, 5), 7)))
	Same(t, "Open", x.Open(), false)
}

func TestP19_2AReplacedOrderLeavesItsRoom(t *testing.T) {
	x := made(t, api.Config{Capacity: 1})
	adds(t, x, Acked(Buy(1, 9, 5)))
	refuses(t, x, Acked(Buy(2, 9, 5)), api.ErrPlace)
	refuses(t, x, Acked(Order(2, api.Buy, api.PostOnly, 9, 5)), api.ErrPlace)
	adds(t, x, Ended(1, 5, api.ByReplace), Acked(Buy(2, 8, 6)))
	tells(t, x, api.Book{Config: api.Config{Capacity: 1}, Buys: []api.Resting{{ID: 2, Type: api.Limit, Price: 8, Visible: 6}}, High: 2, Seq: 3})
	// The room is its own alone: behind the next command there is none.
	refuses(t, x, Acked(Buy(3, 9, 5)), api.ErrPlace)
	adds(t, x, Acked(Order(3, api.Buy, api.IOC, 9, 5)), Ended(3, 5, api.ByRest))
}

// spoilt is an event with one field changed, and what must be wrong with it in the midst of a command.
func spoilt(e api.Event) map[api.Errno][]api.Event {
	l := map[api.Errno][]api.Event{}
	for _, x := range []struct {
		why  api.Errno
		turn func(e *api.Event)
	}{
		{api.ErrPlace, func(e *api.Event) { e.Kind++ }},
		{api.ErrPlace, func(e *api.Event) { e.Kind = 0 }},
		{api.ErrPlace, func(e *api.Event) { e.Kind = api.EvAck }},
		{api.ErrFirst, func(e *api.Event) { e.ID++ }},
		{api.ErrFirst, func(e *api.Event) { e.ID = 0 }},
		{api.ErrFirst, func(e *api.Event) { e.Other++ }},
		{api.ErrTicks, func(e *api.Event) { e.Price++ }},
		{api.ErrTicks, func(e *api.Event) { e.Price-- }},
		{api.ErrAmount, func(e *api.Event) { e.Qty++ }},
		{api.ErrAmount, func(e *api.Event) { e.Qty-- }},
		{api.ErrAmount, func(e *api.Event) { e.Qty += 1 << 32 }},
		{api.ErrReason, func(e *api.Event) { e.Reason++ }},
		{api.ErrReason, func(e *api.Event) { e.Reason = -e.Reason - 1 }},
		{api.ErrPlace, func(e *api.Event) { e.Target++ }},
		{api.ErrPlace, func(e *api.Event) { e.Member++ }},
		{api.ErrPlace, func(e *api.Event) { e.Side++ }},
		{api.ErrPlace, func(e *api.Event) { e.Type++ }},
		{api.ErrPlace, func(e *api.Event) { e.Peak++ }},
		{api.ErrPlace, func(e *api.Event) { e.Code++ }},
		// The first of several faults is told.
		{api.ErrPlace, func(e *api.Event) { e.Kind, e.ID, e.Price, e.Qty, e.Reason = 9, 0, -1, 0, -1 }},
		{api.ErrFirst, func(e *api.Event) { e.Other, e.Price, e.Qty, e.Reason, e.Code = 99, -1, 0, -1, 1 }},
		{api.ErrTicks, func(e *api.Event) { e.Price, e.Qty, e.Reason, e.Side = -1, 0, -1, 7 }},
		{api.ErrAmount, func(e *api.Event) { e.Qty, e.Reason, e.Type = 0, -1, 7 }},
		{api.ErrReason, func(e *api.Event) { e.Reason, e.Member, e.Target = -1, 7, 7 }},
	} {
		wrong := e
		x.turn(&wrong)
		l[x.why] = append(l[x.why], wrong)
	}
	return l
}

// onlySo adds events, each of which is all that can come in its place.
func onlySo(t *testing.T, x *checker.Checker, l ...api.Event) {
	t.Helper()
	for _, e := range l {
		Same(t, "Open", x.Open(), true)
		for why, wrongs := range spoilt(e) {
			for _, wrong := range wrongs {
				refuses(t, x, wrong, why)
			}
		}
		adds(t, x, e)
	}
	Same(t, "Open", x.Open(), false)
}

func TestP19_2WhatMustComeNext(t *testing.T) {
	sells := []api.Event{Acked(By(Sell(1, 10, 5), 7)), Acked(Peaked(Sell(2, 10, 5), 3)), Acked(By(Sell(3, 11, 4), 8))}
	for name, x := range map[string]struct {
		meet  int
		comes api.Command
		then  []api.Event
	}{
		"nothing to meet":          {0, Buy(9, 9, 20), nil},
		"a limit":                  {0, Buy(9, 10, 7), []api.Event{Traded(9, 1, api.Buy, 10, 5), Traded(9, 2, api.Buy, 10, 2)}},
		"a refresh at the end":     {0, Buy(9, 10, 8), []api.Event{Traded(9, 1, api.Buy, 10, 5), Traded(9, 2, api.Buy, 10, 3), Refreshed(2, 10, 2)}},
		"a limit that rests":       {0, Buy(9, 10, 11), []api.Event{Traded(9, 1, api.Buy, 10, 5), Traded(9, 2, api.Buy, 10, 3), Refreshed(2, 10, 2), Traded(9, 2, api.Buy, 10, 2)}},
		"a market":                 {0, Order(9, api.Buy, api.Market, 0, 20), []api.Event{Traded(9, 1, api.Buy, 10, 5), Traded(9, 2, api.Buy, 10, 3), Refreshed(2, 10, 2), Traded(9, 2, api.Buy, 10, 2), Traded(9, 3, api.Buy, 11, 4), Ended(9, 6, api.ByRest)}},
		"an ioc":                   {0, Order(9, api.Buy, api.IOC, 10, 11), []api.Event{Traded(9, 1, api.Buy, 10, 5), Traded(9, 2, api.Buy, 10, 3), Refreshed(2, 10, 2), Traded(9, 2, api.Buy, 10, 2), Ended(9, 1, api.ByRest)}},
		"an ioc that meets none":   {0, Order(9, api.Buy, api.IOC, 9, 11), []api.Event{Ended(9, 11, api.ByRest)}},
		"an fok":                   {0, Order(9, api.Buy, api.FOK, 10, 10), []api.Event{Traded(9, 1, api.Buy, 10, 5), Traded(9, 2, api.Buy, 10, 3), Refreshed(2, 10, 2), Traded(9, 2, api.Buy, 10, 2)}},
		"an fok of too much":       {0, Order(9, api.Buy, api.FOK, 10, 11), []api.Event{Ended(9, 11, api.ByFill)}},
		"its own, newest":          {api.MeetNewest, By(Buy(9, 11, 7), 7), []api.Event{Ended(9, 7, api.ByMeet)}},
		"its own, oldest":          {api.MeetOldest, By(Buy(9, 10, 6), 7), []api.Event{Ended(1, 5, api.ByMeet), Traded(9, 2, api.Buy, 10, 3), Refreshed(2, 10, 2), Traded(9, 2, api.Buy, 10, 2)}},
		"its own, both":            {api.MeetBoth, By(Buy(9, 11, 7), 7), []api.Event{Ended(1, 5, api.ByMeet), Ended(9, 7, api.ByMeet)}},
		"its own, trading":         {api.MeetTrade, By(Buy(9, 10, 5), 7), []api.Event{Traded(9, 1, api.Buy, 10, 5)}},
		"its own behind, newest":   {api.MeetNewest, By(Buy(9, 11, 12), 8), []api.Event{Traded(9, 1, api.Buy, 10, 5), Traded(9, 2, api.Buy, 10, 3), Refreshed(2, 10, 2), Traded(9, 2, api.Buy, 10, 2), Ended(9, 2, api.ByMeet)}},
		"its own behind, both":     {api.MeetBoth, By(Order(9, api.Buy, api.Market, 0, 12), 8), []api.Event{Traded(9, 1, api.Buy, 10, 5), Traded(9, 2, api.Buy, 10, 3), Refreshed(2, 10, 2), Traded(9, 2, api.Buy, 10, 2), Ended(3, 4, api.ByMeet), Ended(9, 2, api.ByMeet)}},
		"an fok and its own":       {api.MeetNewest, By(Order(9, api.Buy, api.FOK, 11, 1), 7), []api.Event{Ended(9, 1, api.ByFill)}},
		"an fok behind its own":    {api.MeetOldest, By(Order(9, api.Buy, api.FOK, 11, 9), 7), []api.Event{Ended(1, 5, api.ByMeet), Traded(9, 2, api.Buy, 10, 3), Refreshed(2, 10, 2), Traded(9, 2, api.Buy, 10, 2), Traded(9, 3, api.Buy, 11, 4)}},
		"an fok too much for it":   {api.MeetOldest, By(Order(9, api.Buy, api.FOK, 11, 10), 7), []api.Event{Ended(9, 10, api.ByFill)}},
		"an fok ahead of its own":  {api.MeetBoth, By(Order(9, api.Buy, api.FOK, 11, 10), 8), []api.Event{Traded(9, 1, api.Buy, 10, 5), Traded(9, 2, api.Buy, 10, 3), Refreshed(2, 10, 2), Traded(9, 2, api.Buy, 10, 2)}},
		"an fok that meets it":     {api.MeetBoth, By(Order(9, api.Buy, api.FOK, 11, 11), 8), []api.Event{Ended(9, 11, api.ByFill)}},
		"nobody's with nobody's":   {api.MeetBoth, Buy(9, 10, 6), []api.Event{Traded(9, 1, api.Buy, 10, 5), Traded(9, 2, api.Buy, 10, 1)}},
		"a post-only of its price": {0, Order(9, api.Buy, api.PostOnly, 9, 6), nil},
	} {
		t.Run(name, func(t *testing.T) {
			c := made(t, api.Config{Capacity: 4, Meet: x.meet})
			adds(t, c, sells...)
			adds(t, c, Acked(x.comes))
			onlySo(t, c, x.then...)
		})
	}
}

// turned is an event as it is told where buys are sells and prices go the other way.
func turned(e api.Event) api.Event {
	if e.Kind == api.EvAck || e.Kind == api.EvTrade {
		e.Side = 3 - e.Side
	}
	if e.Kind != api.EvCancel && e.Type != api.Market {
		e.Price = 100 - e.Price
	}
	return e
}

func TestP19_2TheOtherSide(t *testing.T) {
	x := made(t, four)
	for _, e := range []api.Event{
		Acked(Sell(1, 11, 5)), Acked(Peaked(Sell(2, 10, 5), 3)), Acked(Sell(3, 10, 1)),
		Acked(Order(4, api.Buy, api.Market, 0, 20)), Traded(4, 2, api.Buy, 10, 3), Refreshed(2, 10, 2), Traded(4, 3, api.Buy, 10, 1), Traded(4, 2, api.Buy, 10, 2), Traded(4, 1, api.Buy, 11, 5), Ended(4, 9, api.ByRest),
	} {
		adds(t, x, turned(e))
	}
	Same(t, "Open", x.Open(), false)
	tells(t, x, api.Book{Config: four, High: 4, Seq: 10})
}

// An FOK at a level where one of its own stands between icebergs: what they hide comes behind it.
func TestP19_2AnFOKAmongIcebergs(t *testing.T) {
	for _, meet := range []int{api.MeetNewest, api.MeetBoth} {
		for qty := uint64(1); qty <= 12; qty++ {
			x := made(t, api.Config{Capacity: 5, Meet: meet})
			adds(t, x, Acked(Peaked(Sell(1, 9, 4), 1)), Acked(Peaked(Sell(2, 10, 5), 2)), Acked(By(Sell(3, 10, 1), 7)), Acked(Sell(4, 10, 5)))
			adds(t, x, Acked(By(Order(5, api.Buy, api.FOK, 10, qty), 7)))
			if qty > 4+2 {
				onlySo(t, x, Ended(5, qty, api.ByFill))
			} else {
				refuses(t, x, Ended(5, qty, api.ByFill), api.ErrPlace)
				adds(t, x, Traded(5, 1, api.Buy, 9, 1))
			}
		}
	}
}

func TestP19_2Cancels(t *testing.T) {
	x := made(t, four)
	adds(t, x, Acked(Peaked(Buy(1, 9, 7), 3)))
	for _, reason := range []int{math.MinInt, -1, 0, api.ByRest, api.ByFill, api.ByMeet, api.ByDay, 7, math.MaxInt} {
		refuses(t, x, Ended(1, 7, reason), api.ErrReason)
		refuses(t, x, Ended(9, 0, reason), api.ErrReason)
	}
	for _, reason := range []int{api.ByOwner, api.ByReplace} {
		for _, id := range []uint64{0, 2, math.MaxUint64} {
			refuses(t, x, Ended(id, 7, reason), api.ErrFirst)
		}
		for _, qty := range []uint64{0, 3, 4, 6, 8, 7 + 1<<32, math.MaxUint64} {
			wrong := Ended(1, qty, reason)
			wrong.Price = 9
			refuses(t, x, wrong, api.ErrAmount)
		}
		for _, turn := range []func(e *api.Event){
			func(e *api.Event) { e.Other = 1 },
			func(e *api.Event) { e.Target = 1 },
			func(e *api.Event) { e.Member = 1 },
			func(e *api.Event) { e.Side = 1 },
			func(e *api.Event) { e.Type = 1 },
			func(e *api.Event) { e.Price = 9 },
			func(e *api.Event) { e.Peak = 3 },
			func(e *api.Event) { e.Code = 1 },
		} {
			wrong := Ended(1, 7, reason)
			turn(&wrong)
			refuses(t, x, wrong, api.ErrPlace)
		}
	}
	adds(t, x, Ended(1, 7, api.ByOwner))
	Same(t, "Open", x.Open(), false)
	tells(t, x, api.Book{Config: four, High: 1, Seq: 2})
	refuses(t, x, Ended(1, 7, api.ByOwner), api.ErrFirst)
}

func TestP19_2Kinds(t *testing.T) {
	x := made(t, four)
	adds(t, x, Acked(Sell(1, 10, 5)))
	for _, kind := range []int{math.MinInt, -1, 0, api.EvTrade, api.EvRefresh, api.EvStop, api.EvTrigger, api.EvPhase, api.EvPrice, api.EvHalt, 99, math.MaxInt} {
		refuses(t, x, api.Event{Kind: kind}, api.ErrPlace)
		refuses(t, x, api.Event{Kind: kind, ID: 2, Other: 1, Side: api.Buy, Price: 10, Qty: 5}, api.ErrPlace)
		refuses(t, x, api.Event{Kind: kind, ID: 1, Price: 10, Qty: 5}, api.ErrPlace)
	}
}

func TestP19_2AcksThatCanNotBe(t *testing.T) {
	good := Peaked(By(Buy(5, 9, 7), 7), 3)
	begun := func() *checker.Checker {
		x := made(t, four)
		adds(t, x, Acked(Sell(4, 10, 5)))
		return x
	}
	for _, turn := range []func(e *api.Event){
		func(e *api.Event) { e.Other = 1 },
		func(e *api.Event) { e.Target = 1 },
		func(e *api.Event) { e.Reason = 1 },
		func(e *api.Event) { e.Code = 1 },
		func(e *api.Event) { e.Side = 0 },
		func(e *api.Event) { e.Side = 3 },
		func(e *api.Event) { e.Side = math.MinInt },
		func(e *api.Event) { e.Type = 0 },
		func(e *api.Event) { e.Type = 6 },
		func(e *api.Event) { e.Price = -1 },
		func(e *api.Event) { e.Price = api.Ticks },
		func(e *api.Event) { e.Type, e.Peak = api.Market, 0 },
		func(e *api.Event) { e.Type, e.Price = api.Market, 0 },
		func(e *api.Event) { e.Type = api.IOC },
		func(e *api.Event) { e.Type = api.FOK },
		func(e *api.Event) { e.Qty = 0 },
		func(e *api.Event) { e.Qty, e.Peak = 0, 0 },
		func(e *api.Event) { e.Qty, e.Peak = api.MaxQty+1, 0 },
		func(e *api.Event) { e.Peak = 8 },
		func(e *api.Event) { e.Peak = math.MaxUint64 },
		func(e *api.Event) { e.Peak = 1 << 56 },
		func(e *api.Event) { e.Qty, e.Peak = 257, 1 },
		func(e *api.Event) { e.ID = 4 },
		func(e *api.Event) { e.ID = 0 },
		func(e *api.Event) { e.Type, e.Price = api.PostOnly, 10 },
		func(e *api.Event) { e.Type, e.Price = api.PostOnly, api.Ticks-1 },
	} {
		e := Acked(good)
		turn(&e)
		refuses(t, begun(), e, api.ErrPlace)
	}
	for _, turn := range []func(e *api.Event){
		func(e *api.Event) {},
		func(e *api.Event) { e.Qty, e.Peak = 256, 1 },
		func(e *api.Event) { e.Qty, e.Peak = api.MaxQty, api.MaxQty },
		func(e *api.Event) { e.Qty, e.Peak = api.MaxQty, 0 },
		func(e *api.Event) { e.Price = 0 },
		func(e *api.Event) { e.Type = api.PostOnly },
		func(e *api.Event) { e.Side, e.Price = api.Sell, api.Ticks-1 },
		func(e *api.Event) { e.ID, e.Member = math.MaxUint64, 0 },
	} {
		x, e := begun(), Acked(good)
		turn(&e)
		adds(t, x, e)
		Same(t, "Open", x.Open(), false)
		Same(t, "High", x.Book().High, e.ID)
	}
}

func TestP19_2TheEndOfNumbers(t *testing.T) {
	x := made(t, four)
	adds(t, x, Acked(Buy(math.MaxUint64, 9, 5)))
	for _, id := range []uint64{0, 1, math.MaxUint64 - 1, math.MaxUint64} {
		refuses(t, x, Acked(Buy(id, 9, 5)), api.ErrPlace)
		adds(t, x, api.Event{Kind: api.EvReject, ID: id, Code: api.ErrID})
		refuses(t, x, api.Event{Kind: api.EvReject, ID: id, Code: api.ErrCross}, api.ErrReason)
	}
}

// codes is all codes that a book tells, and some that it does not.
func codes() []api.Errno {
	l := []api.Errno{math.MinInt, -1, 0, 1, 2, 3, api.ErrBook, api.ErrStop, api.ErrHalted, api.ErrPhase, api.ErrSeq, math.MaxInt}
	for why := api.ErrKind - 2; why <= api.ErrCross+2; why++ {
		l = append(l, why)
	}
	return l
}

func TestP19_2Rejects(t *testing.T) {
	// No order; a sell; a sell and a PostOnly that buys, and no room; a PostOnly alone.
	none, one, two, lone := made(t, api.Config{Capacity: 2}), made(t, api.Config{Capacity: 2}), made(t, api.Config{Capacity: 2}), made(t, api.Config{Capacity: 2})
	adds(t, one, Acked(Sell(5, 10, 5)))
	adds(t, two, Acked(Sell(5, 10, 5)), Acked(Order(6, api.Buy, api.PostOnly, 9, 5)))
	adds(t, lone, Acked(Order(5, api.Buy, api.PostOnly, 9, 5)))
	for _, x := range []struct {
		code api.Errno
		in   *checker.Checker
		// The numbers ID and Target with which it may be told, and those with which it may not.
		may, not [][2]uint64
	}{
		{api.ErrKind, none, [][2]uint64{{0, 0}, {1, 2}, {math.MaxUint64, math.MaxUint64}}, nil},
		{api.ErrKind, one, [][2]uint64{{0, 0}, {5, 5}, {9, 9}}, nil},
		{api.ErrTarget, one, [][2]uint64{{0, 0}, {0, 4}, {9, 6}, {5, 6}}, [][2]uint64{{0, 5}, {9, 5}}},
		{api.ErrSide, one, [][2]uint64{{0, 0}, {5, 0}, {9, 0}}, [][2]uint64{{9, 5}, {9, 6}}},
		{api.ErrType, one, [][2]uint64{{0, 0}, {5, 0}, {9, 0}}, [][2]uint64{{9, 5}, {9, 6}}},
		{api.ErrPrice, one, [][2]uint64{{0, 0}, {9, 0}, {0, 5}, {9, 5}}, [][2]uint64{{9, 6}, {9, 4}}},
		{api.ErrQty, one, [][2]uint64{{0, 0}, {9, 0}, {0, 5}, {9, 5}}, [][2]uint64{{9, 6}, {9, 4}}},
		{api.ErrPeak, one, [][2]uint64{{0, 0}, {9, 0}, {0, 5}, {9, 5}}, [][2]uint64{{9, 6}, {9, 4}}},
		{api.ErrID, none, [][2]uint64{{0, 0}}, [][2]uint64{{1, 0}, {0, 1}}},
		{api.ErrID, one, [][2]uint64{{0, 0}, {5, 0}, {4, 5}, {5, 5}}, [][2]uint64{{6, 0}, {6, 5}, {5, 6}, {5, 4}}},
		{api.ErrFull, none, nil, [][2]uint64{{1, 0}}},
		{api.ErrFull, one, nil, [][2]uint64{{6, 0}, {6, 5}}},
		{api.ErrFull, two, [][2]uint64{{7, 0}, {math.MaxUint64, 0}}, [][2]uint64{{0, 0}, {6, 0}, {7, 5}, {7, 6}, {7, 1}}},
		{api.ErrCross, none, nil, [][2]uint64{{1, 0}, {1, 1}}},
		{api.ErrCross, one, [][2]uint64{{6, 0}}, [][2]uint64{{5, 0}, {0, 0}, {6, 5}, {6, 4}, {5, 5}}},
		{api.ErrCross, two, [][2]uint64{{7, 6}}, [][2]uint64{{7, 0}, {7, 5}, {6, 6}, {7, 7}}},
		{api.ErrCross, lone, [][2]uint64{{6, 0}}, [][2]uint64{{6, 5}, {6, 6}}},
	} {
		for _, n := range x.may {
			adds(t, x.in, api.Event{Kind: api.EvReject, ID: n[0], Target: n[1], Code: x.code})
			Same(t, "Open", x.in.Open(), false)
		}
		for _, n := range x.not {
			refuses(t, x.in, api.Event{Kind: api.EvReject, ID: n[0], Target: n[1], Code: x.code}, api.ErrReason)
		}
	}
	for _, code := range codes() {
		if code < api.ErrKind || code > api.ErrCross {
			refuses(t, one, api.Event{Kind: api.EvReject, ID: 9, Code: code}, api.ErrReason)
		}
		for _, turn := range []func(e *api.Event){
			func(e *api.Event) { e.Other = 1 },
			func(e *api.Event) { e.Member = 1 },
			func(e *api.Event) { e.Side = 1 },
			func(e *api.Event) { e.Type = 1 },
			func(e *api.Event) { e.Price = 1 },
			func(e *api.Event) { e.Qty = 1 },
			func(e *api.Event) { e.Peak = 1 },
			func(e *api.Event) { e.Reason = 1 },
		} {
			e := api.Event{Kind: api.EvReject, Code: code}
			turn(&e)
			refuses(t, one, e, api.ErrPlace)
		}
	}
}

func TestP19_3TheExamples(t *testing.T) {
	log := func() []api.Event {
		return Numbered(0, Acked(Sell(1, 10, 5)), Acked(Buy(2, 11, 7)), Traded(2, 1, api.Buy, 10, 5))
	}
	checks(t, four, log(), 3, api.OK)
	checks(t, four, log()[:2], 2, api.ErrOpen)
	checks(t, four, log()[:1], 1, api.OK)
	checks(t, four, nil, 0, api.OK)
	for why, turn := range map[api.Errno]func(e *api.Event){
		api.ErrTicks:  func(e *api.Event) { e.Price = 11 },
		api.ErrAmount: func(e *api.Event) { e.Qty = 4 },
		api.ErrFirst:  func(e *api.Event) { e.Other = 9 },
	} {
		l := log()
		turn(&l[2])
		checks(t, four, l, 2, why)
		checks(t, four, append(l, log()...), 2, why)
	}
	checks(t, four, Numbered(1, log()...), 0, api.ErrSeq)
	checks(t, four, Numbered(0, Refreshed(1, 10, 5)), 0, api.ErrPlace)
	checks(t, four, Numbered(0, Ended(9, 5, api.ByOwner)), 0, api.ErrFirst)
	checks(t, four, Numbered(0, Ended(9, 5, api.ByRest)), 0, api.ErrReason)
	l := log()
	checks(t, four, append(l, Numbered(3, Ended(2, 2, api.ByReplace))...), 4, api.ErrOpen)
	checks(t, api.Config{}, log(), 0, api.ErrArg)
	x := made(t, four)
	adds(t, x, log()...)
	tells(t, x, api.Book{Config: four, Buys: []api.Resting{{ID: 2, Type: api.Limit, Price: 11, Visible: 2}}, High: 2, Seq: 3})
}

func TestP19_3ALogStaysAsItIs(t *testing.T) {
	mix := Mixer(7)
	log := logOf(four, &mix, 200, 6)
	was := slices.Clone(log)
	checks(t, four, log, len(log), api.OK)
	SameList(t, "the log", log, was)
}

// What no call of the package made may answer anything; it may not panic.
func TestAZeroChecker(t *testing.T) {
	var x checker.Checker
	_, _ = x.Open(), x.Book()
	for _, c := range []api.Command{Buy(1, 9, 5), Order(2, api.Sell, api.IOC, 9, 5), Order(3, api.Buy, api.FOK, 9, 5)} {
		for kind := range 8 {
			e := Acked(c)
			e.Kind, e.Seq = kind, x.Book().Seq+1
			x.Add(e)
		}
	}
}
