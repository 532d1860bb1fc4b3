package engines_test

import (
	"testing"

	"bourse/api"
	. "bourse/sample"
)

// long is how many commands each of the long runs does.
const long = 4000

func TestP10_4P11_4Alike(t *testing.T) {
	seen := map[[2]int]int{}
	for capacity := 1; capacity <= 40; capacity += 1 + capacity/3 {
		for meet := range 4 {
			mix := Mixer(1000*capacity + meet)
			w := trioOf(t, api.Config{Capacity: capacity, Meet: meet})
			for range long / 4 {
				c := Wild(&mix, w.list.Book().High, 1+meet+mix.Below(12))
				if c.ID > 1<<62 {
					c.ID = w.list.Book().High
				}
				for _, e := range w.do(t, c) {
					seen[[2]int{e.Kind, e.Reason + int(e.Code)}]++
				}
				w.alike(t)
			}
		}
	}
	for _, e := range [][2]int{{1, 0}, {3, 0}, {5, 0}, {4, 1}, {4, 2}, {4, 3}, {4, 4}, {4, 5}, {2, 90}, {2, 91}, {2, 92}, {2, 93}, {2, 94}, {2, 95}, {2, 96}, {2, 97}, {2, 98}, {2, 99}} {
		if seen[e] < 20 {
			t.Errorf("the event %v was told %d times", e, seen[e])
		}
	}
}

func TestP10_4P11_4AlikeWithManyPrices(t *testing.T) {
	// All prices, and those about the end of a page of a ladder.
	for _, prices := range []int{api.Ticks, 1200} {
		mix := Mixer(prices)
		w := trioOf(t, api.Config{Capacity: 1000, Meet: api.MeetOldest})
		for step := range 3 * long {
			c := Likely(&mix, w.list.Book().High, prices)
			// Buys are low and sells are high, but for those that meet the others.
			if low := c.Side == api.Buy; c.Kind == api.New && c.Type != api.Market && low == (c.Price > prices/2) && mix.Below(20) > 0 {
				c.Price = prices - 1 - c.Price
			}
			w.do(t, c)
			if step%60 == 0 {
				w.alike(t)
			}
		}
		if buys, sells := w.tree.Levels(); buys < 50 || sells < 50 {
			t.Errorf("only %d and %d levels", buys, sells)
		}
	}
}

func TestP9_9P10_4P11_4LoadedOnTheWay(t *testing.T) {
	for meet := range 4 {
		mix := Mixer(400 + meet)
		w := trioOf(t, api.Config{Capacity: 10, Meet: meet})
		for range long {
			switch mix.Below(16) {
			case 0, 1, 2:
				// One of them goes on from another one, or from itself.
				Same(t, "Load", Pick(&mix, w.all()...).Load(Pick(&mix, w.all()...).Book()), api.OK)
			case 3:
				w.load(t, Pick(&mix, w.all()...).Book())
			case 4:
				// They go on in books that held something else.
				other := trioOf(t, api.Config{Capacity: 3, Meet: 3 - meet})
				other.load(t, Fair())
				for _, e := range other.all() {
					Same(t, "Load", e.Load(Pick(&mix, w.all()...).Book()), api.OK)
				}
				w = other
			case 5:
				if x := w.ladder.Book(); mix.Below(8) == 0 {
					// An ID above High can't be.
					x.Buys = append(x.Buys, api.Resting{ID: x.High + 1, Type: api.Limit, Visible: 1})
					w.load(t, x)
				}
			}
			w.do(t, Likely(&mix, w.list.Book().High, 1+mix.Below(6)))
			w.alike(t)
		}
	}
}
