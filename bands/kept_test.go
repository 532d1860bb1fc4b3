package bands_test

import (
	"math"
	"slices"
	"testing"

	"bourse/api"
	"bourse/bands"
	. "bourse/sample"
)

func TestP15_4Restore(t *testing.T) {
	each(t, func(t *testing.T, kind int) {
		most := api.Band{Reference: api.Ticks - 1, Static: api.Ticks, Dynamic: api.Ticks, Last: api.Ticks - 1, HasLast: true, Halted: true, Seq: math.MaxUint64}
		for _, s := range []api.Band{{}, {HasLast: true}, {Halted: true}, {Static: api.Ticks}, {Dynamic: api.Ticks}, {Last: 7, HasLast: true, Reference: 1000}, fairBand(), most} {
			restored(t, kind, s, Fair())
			restored(t, kind, s, api.Book{Config: api.Config{Capacity: 1}})
		}
		// Seq goes on, and begins again behind the greatest number.
		g := restored(t, kind, most, Fair())
		SameList(t, "Do", g.Do(Buy(10, 1, 1)), []api.Event{{Kind: api.EvReject, ID: 10, Code: api.ErrHalted}})
		told, _ := g.Resume(3)
		SameList(t, "Resume", told, []api.Event{{Seq: 1, Kind: api.EvResume, Price: 3}})
		Same(t, "the engine's Seq", g.Book().Seq, Fair().Seq)
	})
}

func TestP15_4ItGoesOnFromThere(t *testing.T) {
	each(t, func(t *testing.T, kind int) {
		// About the last price 13 with the dynamic width 2; prices are from 6 to 16.
		g := restored(t, kind, fairBand(), Fair())
		refuses(t, g, Order(10, api.Buy, api.IOC, 5, 1), api.ErrBand)
		Same(t, "Seq", g.State().Seq, 51)
		c := market(10, api.Buy, 1)
		does(t, g, c, Acked(c), Traded(10, 1, api.Buy, 11, 1))
		Same(t, "Last", g.State().Last, 11)
		g = restored(t, kind, fairBand(), Fair())
		jumps(t, g, market(10, api.Sell, 1), 10)
		resumes(t, g, 11)
		c = market(10, api.Sell, 1)
		does(t, g, c, Acked(c), Traded(10, 3, api.Sell, 10, 1))
		// A halt is kept, too.
		s := fairBand()
		s.Halted = true
		g = restored(t, kind, s, Fair())
		refuses(t, g, market(10, api.Buy, 1), api.ErrHalted)
		SameList(t, "Halt", g.Halt(), nil)
	})
}

// spoiltBands is states that can't be: each is the fair one but for one thing.
func spoiltBands() []api.Band {
	var l []api.Band
	add := func(turn func(s *api.Band)) {
		s := fairBand()
		turn(&s)
		l = append(l, s)
	}
	for _, wrong := range wrongPrices() {
		add(func(s *api.Band) { s.Reference = wrong })
		add(func(s *api.Band) { s.Last = wrong })
		add(func(s *api.Band) { s.Last, s.HasLast = wrong, false })
	}
	for _, wrong := range wrongWidths() {
		add(func(s *api.Band) { s.Static = wrong })
		add(func(s *api.Band) { s.Dynamic = wrong })
	}
	add(func(s *api.Band) { s.HasLast = false })
	add(func(s *api.Band) { s.Last, s.HasLast = 1, false })
	return l
}

func TestP15_4RestoreOfWhatCantBe(t *testing.T) {
	each(t, func(t *testing.T, kind int) {
		g := guardOf(t, kind, Sell(1, 101, 5), Buy(2, 101, 1), Buy(3, 98, 1))
		g.Halt()
		s, x := g.State(), g.Book()
		refused := func(s2 api.Band, x2 api.Book) {
			t.Helper()
			Same(t, "Restore", g.Restore(s2, x2), api.ErrBook)
			Same(t, "State", g.State(), s)
			Keeps(t, g, x)
		}
		for _, wrong := range spoiltBands() {
			refused(wrong, Fair())
			refused(wrong, api.Book{})
		}
		for _, wrong := range append(Spoilt(), api.Book{}) {
			refused(fairBand(), wrong)
			refused(api.Band{}, wrong)
		}
		Same(t, "Restore", g.Restore(fairBand(), Fair()), api.OK)
	})
}

func TestP15_4StateIsAllThatIsKept(t *testing.T) {
	each(t, func(t *testing.T, kind int) {
		g := guardOf(t, kind, Sell(1, 100, 5))
		Same(t, "State", g.State(), api.Band{Reference: 100, Static: 10, Dynamic: 3, Seq: 1})
		// What is refused by the engine is numbered, too.
		g.Do(Cancel(9))
		g.Do(market(2, api.Buy, 1))
		Same(t, "State", g.State(), api.Band{Reference: 100, Static: 10, Dynamic: 3, Last: 100, HasLast: true, Seq: 4})
		g.Do(Buy(3, 1, 1))
		g.Halt()
		g.Do(Buy(3, 100, 1))
		Same(t, "State", g.State(), api.Band{Reference: 100, Static: 10, Dynamic: 3, Last: 100, HasLast: true, Halted: true, Seq: 7})
		g.Resume(0)
		Same(t, "State", g.State(), api.Band{Reference: 0, Static: 10, Dynamic: 3, Seq: 8})
		// A last price of 0 is one.
		g = restored(t, kind, api.Band{Static: 200, Dynamic: 2}, api.Book{Config: api.Config{Capacity: 4}})
		g.Do(Sell(1, 0, 5))
		g.Do(Buy(2, 2, 1))
		Same(t, "State", g.State(), api.Band{Static: 200, Dynamic: 2, HasLast: true, Seq: 3})
	})
}

// filled is a list with spare room, in which stands what must not be changed.
func filled[T any](l []T, with T) []T {
	room := append(slices.Clone(l), with, with, with)
	return room[:len(l)]
}

func TestP15_4NothingIsShared(t *testing.T) {
	each(t, func(t *testing.T, kind int) {
		x, odd := Fair(), api.Resting{ID: 77}
		x.Buys, x.Sells = filled(x.Buys, odd), filled(x.Sells, odd)
		g := over(t, engineOf(t, kind, api.Config{Capacity: 1}), 0, 0, 0)
		Same(t, "Restore", g.Restore(fairBand(), x), api.OK)
		// Tried and taken back, and done.
		refuses(t, g, Order(10, api.Sell, api.IOC, 5, 99), api.ErrBand)
		does(t, g, Cancel(1), Ended(1, 1, api.ByOwner))
		Same(t, "whether a book is as it was", SameBook(x, Fair()), true)
		for _, l := range [][]api.Resting{x.Buys, x.Sells} {
			SameList(t, "its spare room", l[len(l):len(l)+3], []api.Resting{odd, odd, odd})
		}
		want := g.Book()
		Spoil(x.Buys, odd)
		Spoil(x.Sells, odd)
		Spoil(g.Book().Buys, odd)
		Keeps(t, g, want)
		// Nor do two answers share anything.
		told := g.Do(Cancel(99))
		again := slices.Clone(told)
		Spoil(g.Do(Cancel(98)), api.Event{})
		Spoil(g.Do(Sell(10, 5, 99)), api.Event{})
		Spoil(g.Halt(), api.Event{})
		SameList(t, "what was told", told, again)
	})
}

// keeper is an engine that goes on reading what it told.
type keeper struct {
	api.Engine
	told *[]api.Event
}

func (k keeper) Do(c api.Command) []api.Event {
	*k.told = k.Engine.Do(c)
	return *k.told
}

func TestP15_2TheEnginesEventsAreNotTouched(t *testing.T) {
	each(t, func(t *testing.T, kind int) {
		var told []api.Event
		g := over(t, keeper{engineOf(t, kind, api.Config{Capacity: 9}), &told}, 100, 10, 3)
		g.Halt()
		g.Resume(100)
		for _, c := range []api.Command{Sell(1, 101, 5), Cancel(99)} {
			Spoil(g.Do(c), api.Event{})
			Same(t, "whose event it is", told[0].ID+told[0].Target, c.ID+c.Target)
		}
		Spoil(g.Do(market(2, api.Buy, 1)), api.Event{})
		SameList(t, "what the engine told", told, Numbered(2, Acked(market(2, api.Buy, 1)), Traded(2, 1, api.Buy, 101, 1)))
	})
}

func TestP15_4LoadChangesNothingOfTheBands(t *testing.T) {
	each(t, func(t *testing.T, kind int) {
		g := restored(t, kind, fairBand(), api.Book{Config: api.Config{Capacity: 2}})
		Same(t, "Load", g.Load(Fair()), api.OK)
		Same(t, "State", g.State(), fairBand())
		Keeps(t, g, Fair())
		// What was loaded is what is traded with, and what is gone back to.
		refuses(t, g, Order(10, api.Sell, api.IOC, 17, 1), api.ErrBand)
		jumps(t, g, market(10, api.Sell, 1), 10)
		Same(t, "Load", g.Load(api.Book{}), api.ErrBook)
		Same(t, "Len", g.Len(), 0)
		Same(t, "Halted", g.State().Halted, true)
	})
}

func TestP15_8AGuardIsAnEngine(t *testing.T) {
	each(t, func(t *testing.T, kind int) {
		twin := engineOf(t, kind, api.Config{Capacity: 4})
		var e api.Engine = over(t, engineOf(t, kind, api.Config{Capacity: 4}), 10, 10, 5)
		for _, c := range []api.Command{Sell(1, 10, 5), Buy(2, 11, 7), Cancel(2), Buy(3, 1, 1), Replace(3, 4, 2, 2)} {
			SameList(t, "Do", e.Do(c), twin.Do(c))
			Alike(t, e, twin)
		}
		Same(t, "Load", e.Load(Fair()), api.OK)
		Same(t, "Load", twin.Load(Fair()), api.OK)
		Alike(t, e, twin)
	})
}

// A Guard that New did not make has no engine: none of its own calls panics.
func TestP15_4WithoutAnEngine(t *testing.T) {
	var g bands.Guard
	Same(t, "Do", len(g.Do(Sell(1, 1, 1))), 0)
	Same(t, "Do", len(g.Do(Cancel(1))), 0)
	Same(t, "Restore", g.Restore(fairBand(), Fair()), api.ErrBook)
	g.Halt()
	Same(t, "Do", len(g.Do(Sell(1, 1, 1))), 0)
	g.Resume(4)
	g.State()
}
