package snapshot_test

import (
	"math"
	"slices"
	"testing"

	"bourse/api"
	"bourse/ladder"
	"bourse/rules"
	. "bourse/sample"
	"bourse/snapshot"
	"bourse/treebook"
)

// isOf ends a test where an engine is of another kind.
func isOf(t *testing.T, e api.Engine, kind int) {
	t.Helper()
	is := 0
	switch e.(type) {
	case *treebook.Book:
		is = 1
	case *ladder.Book:
		is = 2
	case *rules.Book:
		is = 3
	}
	Same(t, "the kind of an engine", is, kind)
}

func made(t *testing.T, kind int, c api.Config) api.Engine {
	t.Helper()
	e, why := snapshot.Make(kind, c)
	Same(t, "Make", why, api.OK)
	isOf(t, e, kind)
	return e
}

func opened(t *testing.T, kind int, x api.Book) api.Engine {
	t.Helper()
	e, why := snapshot.Open(kind, x)
	Same(t, "Open", why, api.OK)
	isOf(t, e, kind)
	Keeps(t, e, x)
	return e
}

func swapped(t *testing.T, e api.Engine, kind int) api.Engine {
	t.Helper()
	other, why := snapshot.Swap(e, kind)
	Same(t, "Swap", why, api.OK)
	isOf(t, other, kind)
	Alike(t, other, e)
	return other
}

// none ends a test where there is an engine beside an error, or another error.
func none(t *testing.T, what string, want api.Errno) func(e api.Engine, why api.Errno) {
	return func(e api.Engine, why api.Errno) {
		t.Helper()
		// An interface value that holds a pointer to nothing is one, too.
		if e != nil || why != want {
			t.Fatalf("%s: got %T, %v, wanted %v", what, e, why, want)
		}
	}
}

func TestP12_3Make(t *testing.T) {
	fits := api.Config{Capacity: 3, Meet: 2}
	for _, kind := range Kinds() {
		Keeps(t, made(t, kind, fits), api.Book{Config: fits})
		for _, capacity := range []int{math.MinInt, -1, 0, 1, 4096, 4097, math.MaxInt} {
			for _, meet := range []int{math.MinInt, -1, 0, 3, 4, math.MaxInt} {
				c := api.Config{Capacity: capacity, Meet: meet}
				if (capacity == 1 || capacity == 4096) && (meet == 0 || meet == 3) {
					Keeps(t, made(t, kind, c), api.Book{Config: c})
				} else {
					none(t, "Make of what can't be", api.ErrArg)(snapshot.Make(kind, c))
				}
			}
		}
	}
	for _, kind := range NoKinds() {
		none(t, "Make of no kind", api.ErrEngine)(snapshot.Make(kind, fits))
		none(t, "Make of no kind and what can't be", api.ErrEngine)(snapshot.Make(kind, api.Config{}))
	}
}

func TestP12_3Open(t *testing.T) {
	for _, kind := range Kinds() {
		for _, x := range []api.Book{{Config: api.Config{Capacity: 1}}, single(), Fair(), greatest(), full(2000)} {
			opened(t, kind, x)
		}
		for _, x := range append(Spoilt(), api.Book{}, api.Book{Config: api.Config{Capacity: 4097}}, api.Book{Config: api.Config{Capacity: 4, Meet: 4}}) {
			none(t, "Open of what can't be", api.ErrBook)(snapshot.Open(kind, x))
		}
		two := api.Resting{ID: 1, Type: api.Limit, Price: 3, Visible: 2}
		none(t, "Open of one ID twice", api.ErrBook)(snapshot.Open(kind, api.Book{Config: api.Config{Capacity: 4}, High: 1, Buys: []api.Resting{two, two}}))
	}
	for _, kind := range NoKinds() {
		none(t, "Open of no kind", api.ErrEngine)(snapshot.Open(kind, Fair()))
		none(t, "Open of no kind and what can't be", api.ErrEngine)(snapshot.Open(kind, api.Book{}))
	}
}

func TestP12_3Swap(t *testing.T) {
	for _, kind := range append(Kinds(), NoKinds()...) {
		none(t, "Swap of nothing", api.ErrArg)(snapshot.Swap(nil, kind))
	}
	for _, from := range Kinds() {
		e := opened(t, from, Fair())
		for _, to := range Kinds() {
			Keeps(t, swapped(t, e, to), Fair())
		}
		for _, to := range NoKinds() {
			none(t, "Swap to no kind", api.ErrEngine)(snapshot.Swap(e, to))
		}
		Keeps(t, e, Fair())
	}
}

// strange is an engine that no package of the program made.
type strange struct {
	api.Engine
	book api.Book
}

func (s strange) Book() api.Book { return s.book }

func TestP12_3SwapOfAnotherEngine(t *testing.T) {
	for _, kind := range Kinds() {
		for _, x := range Spoilt() {
			none(t, "Swap of what can't be", api.ErrBook)(snapshot.Swap(strange{book: x}, kind))
		}
		// A book of no config keeps what can't be.
		none(t, "Swap of a book that New did not make", api.ErrBook)(snapshot.Swap(&rules.Book{}, kind))
		// All that it needs is a book.
		e, why := snapshot.Swap(strange{book: Fair()}, kind)
		Same(t, "Swap", why, api.OK)
		isOf(t, e, kind)
		Keeps(t, e, Fair())
	}
	none(t, "Swap of what can't be to no kind", api.ErrEngine)(snapshot.Swap(strange{}, 0))
}

func TestP12_3P12_7NothingIsShared(t *testing.T) {
	for _, kind := range Kinds() {
		x := Fair()
		x.Buys = append(make([]api.Resting, 0, 9), x.Buys...)
		e := opened(t, kind, x)
		e.Do(Sell(10, 10, 1))
		Same(t, "whether what was handed in is as it was", SameBook(x, Fair()), true)
		SameList(t, "its spare room", x.Buys[2:9], make([]api.Resting, 7))
		e = opened(t, kind, x)
		Spoil(x.Buys, api.Resting{ID: 77})
		Spoil(x.Sells, api.Resting{ID: 77})
		Keeps(t, e, Fair())
		// Also where it is an engine that hands it in.
		x = Fair()
		e, why := snapshot.Swap(strange{book: x}, kind)
		Same(t, "Swap", why, api.OK)
		Spoil(x.Buys, api.Resting{ID: 77})
		Spoil(x.Sells, api.Resting{ID: 77})
		Keeps(t, e, Fair())
	}
}

// ahead is what Ahead answers.
type ahead struct {
	sum   uint64
	there bool
}

func aheadOf(x api.Book, id uint64) ahead {
	sum, there := snapshot.Ahead(x, id)
	return ahead{sum, there}
}

func TestP12_4Ahead(t *testing.T) {
	x := api.Book{
		Sells: []api.Resting{{ID: 1, Price: 10, Visible: 5, Hidden: 50, Peak: 5}, {ID: 2, Price: 10, Visible: 3}, {ID: 3, Price: 11, Visible: 2}, {ID: 4, Price: 11, Visible: 9}},
		Buys:  []api.Resting{{ID: 5, Price: 9, Visible: 7}, {ID: 6, Price: 9, Visible: 1}, {ID: 7, Price: 9, Visible: 4}, {ID: 8, Price: 8, Visible: 4}},
	}
	for id, want := range []ahead{{}, {0, true}, {5, true}, {0, true}, {2, true}, {0, true}, {7, true}, {8, true}, {0, true}, {}, {}} {
		Same(t, "Ahead", aheadOf(x, uint64(id)), want)
	}
	Same(t, "Ahead in no book", aheadOf(api.Book{}, 1), ahead{})
	Same(t, "Ahead of no ID", aheadOf(Fair(), math.MaxUint64), ahead{})
	Same(t, "Ahead in a fair book", aheadOf(Fair(), 9), ahead{5, true})
}

func TestP12_4AheadInAnyBook(t *testing.T) {
	// The first of those that have one ID counts, the buys ahead of the sells; prices may stand in any order, IDs and prices may be anything.
	x := api.Book{
		Buys:  []api.Resting{{ID: 1, Price: -5, Visible: 1}, {ID: 2, Price: 10, Visible: 2}, {ID: 0, Price: -5, Visible: 4}, {ID: 2, Price: -5, Visible: 8}, {ID: 3, Price: -5, Visible: 16}},
		Sells: []api.Resting{{ID: 9, Price: 10, Visible: 32}, {ID: 3, Price: 10, Visible: 64}, {ID: 4, Price: -5, Visible: 128}, {ID: 9, Price: 10, Visible: 256}, {ID: 5, Price: 10, Visible: 512}},
	}
	for id, want := range map[uint64]ahead{0: {1, true}, 1: {0, true}, 2: {0, true}, 3: {13, true}, 4: {0, true}, 5: {352, true}, 9: {0, true}, 6: {}} {
		Same(t, "Ahead", aheadOf(x, id), want)
	}
	// Sums are taken modulo 2^64.
	x = api.Book{Buys: []api.Resting{{ID: 1, Visible: math.MaxUint64}, {ID: 2, Visible: math.MaxUint64}, {ID: 3, Visible: 5}, {ID: 4}}}
	Same(t, "Ahead", aheadOf(x, 3), ahead{math.MaxUint64 - 1, true})
	Same(t, "Ahead", aheadOf(x, 4), ahead{3, true})
}

func TestP12_4AheadChangesNothing(t *testing.T) {
	x := Fair()
	snapshot.Ahead(x, 9)
	snapshot.Same(x, x)
	Same(t, "whether a book is as it was", SameBook(x, Fair()), true)
}

func TestP12_4AheadMustTradeFirst(t *testing.T) {
	for _, x := range books(t) {
		if len(x.Sells) > 100 || x.High == math.MaxUint64 {
			continue
		}
		for _, r := range x.Sells {
			e := opened(t, api.List, x)
			for _, better := range x.Sells {
				if better.Price < r.Price {
					e.Do(Cancel(better.ID))
				}
			}
			sum, there := snapshot.Ahead(x, r.ID)
			Same(t, "whether there is one", there, true)
			// One more than what is shown ahead is the first that trades with it.
			trades := slices.DeleteFunc(e.Do(Order(x.High+1, api.Buy, api.IOC, r.Price, sum+1)), func(e api.Event) bool { return e.Kind != api.EvTrade })
			last := len(trades) - 1
			Same(t, "the last trade's order", trades[last].Other, r.ID)
			Same(t, "the last trade's quantity", trades[last].Qty, 1)
			Same(t, "whether it trades ahead of that", slices.ContainsFunc(trades[:last], func(e api.Event) bool { return e.Other == r.ID }), false)
		}
	}
}

func TestP12_4Same(t *testing.T) {
	same := func(a, b api.Book, want bool) {
		t.Helper()
		Same(t, "Same", snapshot.Same(a, b), want)
		Same(t, "Same the other way round", snapshot.Same(b, a), want)
	}
	same(api.Book{}, api.Book{}, true)
	same(Fair(), Fair(), true)
	same(api.Book{}, api.Book{Buys: []api.Resting{}, Sells: make([]api.Resting, 0, 4)}, true)
	same(Fair(), api.Book{}, false)
	for _, turn := range []func(x *api.Book){
		func(x *api.Book) { x.Config.Capacity++ },
		func(x *api.Book) { x.Config.Meet++ },
		func(x *api.Book) { x.High++ },
		func(x *api.Book) { x.Seq++ },
		func(x *api.Book) { x.Buys, x.Sells = x.Sells, x.Buys },
		func(x *api.Book) { x.Buys = nil },
		func(x *api.Book) { x.Sells = nil },
		func(x *api.Book) { x.Buys = x.Buys[:1] },
		func(x *api.Book) { x.Sells = x.Sells[1:] },
		func(x *api.Book) { slices.Reverse(x.Buys) },
		func(x *api.Book) { slices.Reverse(x.Sells) },
		func(x *api.Book) { x.Sells = append(x.Sells, api.Resting{}) },
	} {
		x := Fair()
		turn(&x)
		same(x, Fair(), false)
	}
	for i := range 2 {
		for _, turn := range []func(r *api.Resting){
			func(r *api.Resting) { r.ID++ },
			func(r *api.Resting) { r.Member++ },
			func(r *api.Resting) { r.Type++ },
			func(r *api.Resting) { r.Price++ },
			func(r *api.Resting) { r.Visible++ },
			func(r *api.Resting) { r.Hidden++ },
			func(r *api.Resting) { r.Peak++ },
		} {
			for _, side := range []int{api.Buy, api.Sell} {
				x := Fair()
				l := [][]api.Resting{x.Buys, x.Sells}[side-api.Buy]
				turn(&l[i])
				same(x, Fair(), false)
			}
		}
	}
}

func TestP12_6Pairs(t *testing.T) {
	for _, from := range Kinds() {
		for _, to := range Kinds() {
			for meet := range 4 {
				mix := Mixer(1000*from + 100*to + meet)
				for range 20 {
					e := made(t, from, api.Config{Capacity: 1 + mix.Below(20), Meet: meet})
					for range mix.Below(200) {
						e.Do(Likely(&mix, e.Book().High, 6))
					}
					other := swapped(t, e, to)
					for range 50 {
						c := Wild(&mix, e.Book().High, 6)
						SameList(t, "Do", other.Do(c), e.Do(c))
						Alike(t, other, e)
					}
					for _, x := range []api.Book{{}, Fair()} {
						Same(t, "Load", other.Load(x), e.Load(x))
						Alike(t, other, e)
					}
				}
			}
		}
	}
}

func TestP12_6AgainAndAgain(t *testing.T) {
	for _, first := range Kinds() {
		for meet := range 4 {
			mix := Mixer(10*first + meet)
			c := api.Config{Capacity: 12, Meet: meet}
			// Its twin is a list book that is never swapped.
			e, twin := made(t, first, c), made(t, api.List, c)
			for range 2000 {
				for range mix.Below(3) {
					e = swapped(t, e, Pick(&mix, Kinds()...))
				}
				c := Likely(&mix, twin.Book().High, 1+mix.Below(8))
				SameList(t, "Do", e.Do(c), twin.Do(c))
				Alike(t, e, twin)
			}
		}
	}
}

func TestP12_6AtTheEnds(t *testing.T) {
	for _, x := range []api.Book{greatest(), full(0), full(4096), full(1000)} {
		for _, from := range Kinds() {
			e := opened(t, from, x)
			for _, to := range Kinds() {
				other := swapped(t, e, to)
				Tells(t, other, Cancel(0), Rejected(Cancel(0), api.ErrTarget))
			}
			Keeps(t, e, x)
		}
	}
}

func TestP12_6ByWayOfBytes(t *testing.T) {
	mix := Mixer(77)
	e, twin := made(t, api.Tree, api.Config{Capacity: 9, Meet: 2}), made(t, api.List, api.Config{Capacity: 9, Meet: 2})
	for range 1000 {
		x, _, why := snapshot.Decode(encoded(t, e.Book()))
		Same(t, "Decode", why, api.OK)
		e = opened(t, Pick(&mix, Kinds()...), x)
		c := Likely(&mix, twin.Book().High, 5)
		SameList(t, "Do", e.Do(c), twin.Do(c))
		Alike(t, e, twin)
	}
}

func TestP12_7Apart(t *testing.T) {
	for _, from := range Kinds() {
		for _, to := range Kinds() {
			for meet := range 4 {
				mix := Mixer(2000*from + 200*to + meet)
				e := made(t, from, api.Config{Capacity: 15, Meet: meet})
				for range 100 {
					e.Do(Likely(&mix, e.Book().High, 6))
				}
				other := swapped(t, e, to)
				// Each has a twin that knows of no swap.
				twin, otherTwin := opened(t, api.List, e.Book()), opened(t, api.List, e.Book())
				for range 300 {
					c := Likely(&mix, e.Book().High, 6)
					if mix.Below(2) == 0 {
						SameList(t, "Do", e.Do(c), twin.Do(c))
					} else {
						SameList(t, "Do", other.Do(c), otherTwin.Do(c))
					}
					Alike(t, e, twin)
					Alike(t, other, otherTwin)
				}
				Same(t, "Load", e.Load(Fair()), api.OK)
				Alike(t, other, otherTwin)
				Same(t, "Load", other.Load(api.Book{}), api.ErrBook)
				Keeps(t, e, Fair())
			}
		}
	}
}
