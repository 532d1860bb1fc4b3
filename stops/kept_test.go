package stops_test

import (
	"math"
	"slices"
	"testing"

	"bourse/api"
	. "bourse/sample"
	"bourse/stops"
)

func TestP13_6Restore(t *testing.T) {
	each(t, func(t *testing.T, kind int) {
		most := api.Stops{Most: api.MaxStops, High: math.MaxUint64, Seq: math.MaxUint64, Last: api.Ticks - 1, HasLast: true}
		for n := range uint64(api.MaxStops) {
			most.List = append(most.List, Stop(math.MaxUint64-api.MaxStops+1+n, api.Ticks-2, Sell(0, 3, 1)))
		}
		for _, s := range []api.Stops{{}, {Most: 1}, {HasLast: true}, {Most: api.MaxStops, HasLast: true, Last: 7}, fairState(), most} {
			restored(t, kind, s, Fair())
			restored(t, kind, s, api.Book{Config: api.Config{Capacity: 1}})
		}
		// Seq goes on, and begins again behind the greatest number.
		b := restored(t, kind, most, Fair())
		SameList(t, "Withdraw", b.Withdraw(math.MaxUint64), []api.Event{Stopped(most.List[api.MaxStops-1], api.ByOwner)})
		SameList(t, "Withdraw", b.Withdraw(0), []api.Event{{Seq: 1, Kind: api.EvReject, Code: api.ErrStop}})
	})
}

func TestP13_6ItGoesOnFromThere(t *testing.T) {
	each(t, func(t *testing.T, kind int) {
		b := restored(t, kind, fairState(), Fair())
		tells(t, b, b.Place(Stop(9, 11, Buy(0, 1, 1))), api.Event{Kind: api.EvReject, ID: 9, Code: api.ErrNumber})
		Same(t, "Seq", b.State().Seq, 51)
		// The last price is 10, as it was.
		Same(t, "Withdraw", len(b.Withdraw(8)), 1)
		sells := Order(0, api.Sell, api.IOC, 11, 1)
		tells(t, b, b.Place(Stop(10, 10, sells)), Stopped(Stop(10, 10, sells), 0), Triggered(10, 10), Acked(numberedAs(10, sells)), Ended(10, 1, api.ByRest))
		c := Order(20, api.Buy, api.IOC, 11, 1)
		tells(t, b, b.Do(c), Acked(c), Traded(20, 1, api.Buy, 11, 1), Triggered(2, 21), Acked(By(numberedAs(21, market(api.Buy, 3)), 7)), Traded(21, 2, api.Buy, 12, 1), Ended(21, 2, api.ByRest))
	})
}

// spoiltStates is states that can't be: each is the fair one but for one thing.
func spoiltStates() []api.Stops {
	var l []api.Stops
	for _, turn := range []func(s *api.Stops){
		func(s *api.Stops) { s.Most = 2 },
		func(s *api.Stops) { s.Most = 0 },
		func(s *api.Stops) { s.Most = -1 },
		func(s *api.Stops) { s.Most = math.MinInt },
		func(s *api.Stops) { s.Most = api.MaxStops + 1 },
		func(s *api.Stops) { s.Most = math.MaxInt },
		func(s *api.Stops) { s.High = 7 },
		func(s *api.Stops) { s.High = 0 },
		func(s *api.Stops) { s.List[0].Number = 0 },
		func(s *api.Stops) { s.List[0].Number = 3 },
		func(s *api.Stops) { s.List[0].Number = 4 },
		func(s *api.Stops) { s.List[2].Number = 3 },
		func(s *api.Stops) { s.List[2].Number = 10 },
		func(s *api.Stops) { slices.Reverse(s.List) },
		func(s *api.Stops) { s.Last = 11 },
		func(s *api.Stops) { s.Last = 9 },
		func(s *api.Stops) { s.HasLast = false },
		func(s *api.Stops) { s.List[0].Trigger = 10 },
		func(s *api.Stops) { s.List[1].Trigger = 10 },
		func(s *api.Stops) { s.List[2].Trigger = 0 },
		func(s *api.Stops) { s.List[0].Trigger = api.Ticks },
		func(s *api.Stops) { s.List[1].Trigger = -1 },
		func(s *api.Stops) { s.List[0].Side = 0 },
		func(s *api.Stops) { s.List[2].Side = 3 },
		func(s *api.Stops) { s.List[1].Type = 6 },
		func(s *api.Stops) { s.List[0].Price = 1 },
		func(s *api.Stops) { s.List[2].Price = api.Ticks },
		func(s *api.Stops) { s.List[0].Qty = 0 },
		func(s *api.Stops) { s.List[2].Qty = api.MaxQty + 1 },
		func(s *api.Stops) { s.List[1].Peak = 7 },
		func(s *api.Stops) { s.List[0].Peak = 1 },
		func(s *api.Stops) { s.List[1].Qty = 513 },
		func(s *api.Stops) { s.List = nil; s.Last = -1 },
		func(s *api.Stops) { s.List = nil; s.Last = api.Ticks },
		func(s *api.Stops) { s.List = nil; s.Last = math.MinInt },
		func(s *api.Stops) { s.List, s.HasLast, s.Last = nil, false, 1 },
		func(s *api.Stops) { s.List, s.HasLast, s.Last = nil, false, -1 },
	} {
		s := fairState()
		turn(&s)
		l = append(l, s)
	}
	return l
}

func TestP13_6RestoreOfWhatCantBe(t *testing.T) {
	each(t, func(t *testing.T, kind int) {
		b := bookOf(t, kind, Sell(1, 10, 5), Buy(2, 10, 1), Buy(3, 8, 1))
		places(t, b, Stop(4, 11, market(api.Buy, 1)), Stop(5, 9, market(api.Sell, 1)))
		s, x := b.State(), b.Book()
		refused := func(s2 api.Stops, x2 api.Book) {
			t.Helper()
			Same(t, "Restore", b.Restore(s2, x2), api.ErrBook)
			keeps(t, b, s)
			Keeps(t, b, x)
		}
		for _, wrong := range spoiltStates() {
			refused(wrong, Fair())
			refused(wrong, api.Book{})
		}
		for _, wrong := range append(Spoilt(), api.Book{}) {
			refused(fairState(), wrong)
			refused(api.Stops{}, wrong)
		}
		Same(t, "Restore", b.Restore(fairState(), Fair()), api.OK)
	})
}

func TestP13_6Last(t *testing.T) {
	each(t, func(t *testing.T, kind int) {
		b := bookOf(t, kind, Sell(1, 0, 5))
		keeps(t, b, api.Stops{Most: 4, Seq: 1})
		// A last price of 0 is one.
		b.Do(Buy(2, 3, 1))
		keeps(t, b, api.Stops{Most: 4, Seq: 3, HasLast: true})
		b.Do(Cancel(1))
		b.Do(Buy(3, api.Ticks-1, 1))
		b.Do(Order(4, api.Sell, api.Market, 0, 1))
		keeps(t, b, api.Stops{Most: 4, Seq: 7, Last: api.Ticks - 1, HasLast: true})
	})
}

// filled is a list with spare room, in which stands what must not be changed.
func filled[T any](l []T, with T) []T {
	room := append(slices.Clone(l), with, with, with)
	return room[:len(l)]
}

func TestP13_6NothingIsShared(t *testing.T) {
	each(t, func(t *testing.T, kind int) {
		s, x := fairState(), Fair()
		odd := api.Stop{Number: 77}
		s.List = filled(s.List, odd)
		b := over(t, engineOf(t, kind, api.Config{Capacity: 1}), 0)
		Same(t, "Restore", b.Restore(s, x), api.OK)
		ten := Stop(10, 12, market(api.Buy, 1))
		b.Place(ten)
		b.Withdraw(2)
		SameList(t, "what was handed in", s.List, fairState().List)
		SameList(t, "its spare room", s.List[3:6], []api.Stop{odd, odd, odd})
		want := api.Stops{Most: 4, List: []api.Stop{fairState().List[1], fairState().List[2], ten}, High: 10, Seq: 52, Last: 10, HasLast: true}
		Spoil(s.List, odd)
		Spoil(x.Buys, api.Resting{})
		Spoil(x.Sells, api.Resting{})
		keeps(t, b, want)
		Keeps(t, b, Fair())
		Spoil(b.Pending(), odd)
		Spoil(b.State().List, odd)
		keeps(t, b, want)
		// Nor do two answers share anything.
		first, second := b.Pending(), b.State()
		Spoil(first, odd)
		SameList(t, "State", second.List, want.List)
		told := b.Withdraw(99)
		again := slices.Clone(told)
		Spoil(b.Withdraw(98), api.Event{})
		SameList(t, "what was told", told, again)
	})
}

// keeper is an engine that goes on reading what it told.
type keeper struct {
	api.Engine
	told *[]api.Event
}

func (k keeper) Do(c api.Command) []api.Event {
	*k.told = k.Engine.Do(c)
	return *k.told
}

func TestP13_3TheEnginesEventsAreNotTouched(t *testing.T) {
	each(t, func(t *testing.T, kind int) {
		var told []api.Event
		b := over(t, keeper{engineOf(t, kind, api.Config{Capacity: 9}), &told}, 4)
		places(t, b, Stop(1, 10, market(api.Buy, 1)))
		c := Sell(1, 10, 5)
		Spoil(b.Do(c), api.Event{})
		SameList(t, "what the engine told", told, Numbered(0, Acked(c)))
		Spoil(b.Do(Buy(2, 10, 1)), api.Event{})
		SameList(t, "what the engine told", told, Numbered(3, Acked(numberedAs(3, market(api.Buy, 1))), Traded(3, 1, api.Buy, 10, 1)))
	})
}

func TestP13_6LoadChangesNothingOfWhatWaits(t *testing.T) {
	each(t, func(t *testing.T, kind int) {
		b := restored(t, kind, fairState(), api.Book{Config: api.Config{Capacity: 2}})
		Same(t, "Load", b.Load(Fair()), api.OK)
		keeps(t, b, fairState())
		Keeps(t, b, Fair())
		// What waits comes behind the High that was loaded.
		c := Order(12, api.Buy, api.IOC, 11, 1)
		tells(t, b, b.Do(c), Acked(c), Traded(12, 1, api.Buy, 11, 1), Triggered(2, 13), Acked(By(numberedAs(13, market(api.Buy, 3)), 7)), Traded(13, 2, api.Buy, 12, 1), Ended(13, 2, api.ByRest),
			Triggered(8, 14), Acked(Order(14, api.Buy, api.PostOnly, 12, 1)))
		Same(t, "Load", b.Load(api.Book{}), api.ErrBook)
		SameList(t, "Pending", b.Pending(), fairState().List[1:2])
		Same(t, "Len", b.Len(), 0)
	})
}

func TestP13_9ABookIsAnEngine(t *testing.T) {
	each(t, func(t *testing.T, kind int) {
		twin := engineOf(t, kind, api.Config{Capacity: 4})
		var e api.Engine = over(t, engineOf(t, kind, api.Config{Capacity: 4}), 2)
		for _, c := range []api.Command{Sell(1, 10, 5), Buy(2, 11, 7), Cancel(2), Buy(3, 1, 1), Replace(3, 4, 2, 2)} {
			SameList(t, "Do", e.Do(c), twin.Do(c))
			Alike(t, e, twin)
		}
	})
}

func TestP13_2OverABookOfItsOwnKind(t *testing.T) {
	each(t, func(t *testing.T, kind int) {
		// The one below lets go, too: High rises by more than what is let go above.
		below := bookOf(t, kind, Sell(1, 10, 1), Sell(2, 11, 5))
		buys := market(api.Buy, 1)
		places(t, below, Stop(1, 11, buys))
		above := over(t, below, 4)
		places(t, above, Stop(5, 10, buys), Stop(6, 11, buys))
		c := Buy(3, 10, 1)
		tells(t, above, above.Do(c), Acked(c), Traded(3, 1, api.Buy, 10, 1),
			Triggered(5, 4), Acked(numberedAs(4, buys)), Traded(4, 2, api.Buy, 11, 1), Triggered(1, 5), Acked(numberedAs(5, buys)), Traded(5, 2, api.Buy, 11, 1),
			Triggered(6, 6), Acked(numberedAs(6, buys)), Traded(6, 2, api.Buy, 11, 1))
	})
}

// A Book that New did not make has no engine: none of its own calls panics.
func TestP13_6WithoutAnEngine(t *testing.T) {
	var b stops.Book
	Same(t, "Do", len(b.Do(Sell(1, 1, 1))), 0)
	b.Place(Stop(1, 1, market(api.Buy, 1)))
	b.Withdraw(1)
	b.Last()
	Same(t, "Restore", b.Restore(fairState(), Fair()), api.ErrBook)
	Same(t, "Pending", len(b.Pending()), 0)
	Same(t, "State", len(b.State().List), 0)
}
