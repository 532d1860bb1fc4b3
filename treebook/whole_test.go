package treebook_test

import (
	"slices"
	"testing"

	"bourse/api"
	. "bourse/sample"
)

// long is how many commands each of the long runs does.
const long = 4000

func TestP10_4Twins(t *testing.T) {
	seen := map[[2]int]int{}
	for capacity := 1; capacity <= 40; capacity += 1 + capacity/3 {
		for meet := range 4 {
			mix := Mixer(1000*capacity + meet)
			w := twinsOf(t, api.Config{Capacity: capacity, Meet: meet})
			for range long / 4 {
				c := Wild(&mix, w.list.Book().High, 1+meet+mix.Below(12))
				if c.ID > 1<<62 {
					c.ID = w.list.Book().High
				}
				for _, e := range w.do(t, c) {
					seen[[2]int{e.Kind, e.Reason + int(e.Code)}]++
				}
				w.alike(t)
			}
		}
	}
	for _, e := range [][2]int{{1, 0}, {3, 0}, {5, 0}, {4, 1}, {4, 2}, {4, 3}, {4, 4}, {4, 5}, {2, 90}, {2, 91}, {2, 92}, {2, 93}, {2, 94}, {2, 95}, {2, 96}, {2, 97}, {2, 98}, {2, 99}} {
		if seen[e] < 20 {
			t.Errorf("the event %v was told %d times", e, seen[e])
		}
	}
}

func TestP10_4TwinsOfManyPrices(t *testing.T) {
	mix := Mixer(104)
	w := twinsOf(t, api.Config{Capacity: 1000, Meet: api.MeetOldest})
	for step := range 5 * long {
		// Buys are low and sells are high, but for those that meet the others.
		c := Likely(&mix, w.list.Book().High, 3000)
		if c.Kind == api.New && c.Side == api.Sell && c.Type != api.Market && mix.Below(20) > 0 {
			c.Price += 2000
		}
		w.do(t, c)
		if step%50 == 0 {
			w.alike(t)
		}
	}
	if buys, sells := w.tree.Levels(); buys < 50 || sells < 50 {
		t.Errorf("only %d and %d levels", buys, sells)
	}
}

func TestP10_4LoadedOnTheWay(t *testing.T) {
	for meet := range 4 {
		mix := Mixer(400 + meet)
		w := twinsOf(t, api.Config{Capacity: 10, Meet: meet})
		for range long {
			switch mix.Below(16) {
			case 0:
				same(t, "Load", w.tree.Load(w.list.Book()), api.OK)
			case 1:
				same(t, "Load", w.list.Load(w.tree.Book()), api.OK)
			case 2:
				w.load(t, w.tree.Book())
			case 3:
				// They go on in books that held something else.
				other := twinsOf(t, api.Config{Capacity: 3, Meet: 3 - meet})
				other.load(t, fair())
				same(t, "Load", other.tree.Load(w.list.Book()), api.OK)
				same(t, "Load", other.list.Load(w.tree.Book()), api.OK)
				w = other
			case 4:
				if x := w.tree.Book(); mix.Below(8) == 0 {
					x.High--
					x.Buys = append(x.Buys, api.Resting{ID: x.High + 1, Type: api.Limit, Visible: 1})
					w.load(t, x)
				}
			}
			w.do(t, Likely(&mix, w.list.Book().High, 1+mix.Below(6)))
			w.alike(t)
		}
	}
}

// told is the levels that a list of orders makes.
func told(l []api.Resting) []api.Level {
	var levels []api.Level
	for i, r := range l {
		if i == 0 || l[i-1].Price != r.Price {
			levels = append(levels, api.Level{Price: r.Price})
		}
		last := &levels[len(levels)-1]
		last.Qty += r.Visible
		last.Count++
	}
	return levels
}

func TestP10_5ToldByTheBookAlone(t *testing.T) {
	for meet := range 4 {
		mix := Mixer(500 + meet)
		b := made(t, api.Config{Capacity: 30, Meet: meet})
		for range long {
			b.Do(Likely(&mix, b.Book().High, 1+mix.Below(20)))
			x := b.Book()
			same(t, "Len", b.Len(), len(x.Buys)+len(x.Sells))
			for i, l := range [][]api.Resting{x.Buys, x.Sells} {
				side := api.Buy + i
				levels := told(l)
				sameList(t, "Depth", b.Depth(side, 30), levels)
				best, there := b.Best(side)
				same(t, "whether there is a best level", there, len(levels) > 0)
				if there {
					same(t, "Best", best, levels[0])
				}
				for _, r := range l {
					order, where, there := b.Find(r.ID)
					if order != r || where != side || !there {
						t.Fatalf("Find(%d): %v, %v, %v", r.ID, order, where, there)
					}
				}
			}
			shaped(t, b)
		}
	}
}

func TestP10_6NothingIsShared(t *testing.T) {
	x := fair()
	x.Buys = append(make([]api.Resting, 0, 9), x.Buys...)
	b := loaded(t, x)
	spoil(x.Buys, api.Resting{ID: 77})
	spoil(x.Sells, api.Resting{ID: 77})
	is(t, b, fair())
	book, again := b.Book(), b.Book()
	spoil(book.Buys, api.Resting{ID: 77})
	sameList(t, "Sells beside Buys", book.Sells, fair().Sells)
	spoil(book.Sells, api.Resting{ID: 77})
	same(t, "another answer is as it was", SameBook(again, fair()), true)
	buys, more := b.Depth(api.Buy, 9), b.Depth(api.Buy, 9)
	spoil(buys, api.Level{Price: 77})
	sameList(t, "another Depth", more, told(fair().Buys))
	is(t, b, fair())
	events := b.Do(Sell(10, 10, 20))
	kept := slices.Clone(events)
	book = b.Book()
	b.Do(Buy(11, 12, 20))
	sameList(t, "events of before", events, kept)
	same(t, "Load", b.Load(book), api.OK)
	spoil(events, api.Event{ID: 77})
	is(t, b, book)
}

// spoil writes over a list and its spare room.
func spoil[T any](l []T, with T) {
	l = l[:cap(l)]
	for i := range l {
		l[i] = with
	}
}

func TestP10_6TwoBooksKnowNothingOfOneAnother(t *testing.T) {
	a, b := loaded(t, fair()), loaded(t, fair())
	c := loaded(t, a.Book())
	a.Do(Cancel(3))
	a.Do(Sell(10, 10, 1))
	is(t, b, fair())
	is(t, c, fair())
}
