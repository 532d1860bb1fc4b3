package bands_test

import (
	"math"
	"slices"
	"testing"

	"bourse/api"
	"bourse/bands"
	. "bourse/sample"
)

// trio is Guards over the three engines, and the model, of which all must tell the same.
type trio struct {
	guards []*bands.Guard
	model  *model
}

func trioOf(t *testing.T, s api.Band, x api.Book) trio {
	t.Helper()
	w := trio{model: &model{book: x, band: s}}
	for _, kind := range Kinds() {
		w.guards = append(w.guards, restored(t, kind, s, x))
	}
	return w
}

// holds looks whether all keep what the model keeps.
func (w trio) holds(t *testing.T) {
	t.Helper()
	for _, g := range w.guards {
		Same(t, "State", g.State(), w.model.band)
		Keeps(t, g, w.model.book)
	}
}

func (w trio) do(t *testing.T, c api.Command) []api.Event {
	t.Helper()
	want := w.model.do(t, c)
	for _, g := range w.guards {
		SameList(t, "Do", g.Do(c), want)
	}
	w.holds(t)
	return want
}

func (w trio) halt(t *testing.T) []api.Event {
	t.Helper()
	want := w.model.halt()
	for _, g := range w.guards {
		SameList(t, "Halt", g.Halt(), want)
	}
	w.holds(t)
	return want
}

func (w trio) resume(t *testing.T, reference int) []api.Event {
	t.Helper()
	want, refused := w.model.resume(reference)
	for _, g := range w.guards {
		got, why := g.Resume(reference)
		Same(t, "Resume", why, refused)
		SameList(t, "Resume", got, want)
	}
	w.holds(t)
	return want
}

// step is a call on all of a trio: what was kept ahead of it, the command (of the kind 0: Halt or Resume), and what was told.
type step struct {
	band api.Band
	book api.Book
	c    api.Command
	told []api.Event
}

// runs plays long runs of calls of all kinds, between bands of several widths; each is shown every answer.
func runs(t *testing.T, seed int, each func(t *testing.T, mix *Mixer, w *trio, s step)) {
	for _, static := range []int{0, 2, 5, 9, api.Ticks} {
		for dynamic := range 5 {
			mix := Mixer(seed + 100*static + dynamic)
			prices := 4 + mix.Below(12)
			config := api.Config{Capacity: 3 + 6*(dynamic%3), Meet: (dynamic + static) % 4}
			w := trioOf(t, api.Band{Reference: mix.Below(prices), Static: static, Dynamic: dynamic}, api.Book{Config: config})
			for range 1500 {
				s := step{band: w.model.band, book: w.model.book}
				// Halts are many: most of them must not last.
				switch n := mix.Below(60); {
				case n == 0:
					s.told = w.halt(t)
				case n < 3 || n < 25 && s.band.Halted:
					s.told = w.resume(t, Pick(&mix, mix.Below(prices), mix.Below(prices), mix.Below(prices), -1, api.Ticks))
				default:
					s.c = wild(&mix, s.book, prices)
					s.told = w.do(t, s.c)
				}
				each(t, &mix, &w, s)
			}
		}
	}
}

// wild is a command that may be anything, or a Replace that may well meet the other side.
func wild(mix *Mixer, x api.Book, prices int) api.Command {
	if l := slices.Concat(x.Buys, x.Sells); len(l) > 0 && mix.Below(6) == 0 {
		return Replace(Pick(mix, l...).ID, x.High+1, mix.Below(prices), uint64(1+mix.Below(5)))
	}
	c := Wild(mix, x.High, prices)
	// The greatest numbers would leave none for those that come.
	if c.ID > 1<<62 {
		c.ID = x.High + 1
	}
	return c
}

// namedBeyond tells whether a command names a price that is out of the static band.
func namedBeyond(s step) bool {
	market := s.c.Kind == api.New && s.c.Type == api.Market
	return !market && apart(s.c.Price, s.band.Reference) > s.band.Static
}

func TestP15_2P15_3AsTheModelTells(t *testing.T) {
	seen := map[[2]int]int{}
	var tradesBeyond, replaced, many int
	runs(t, 1, func(t *testing.T, mix *Mixer, w *trio, s step) {
		trades := 0
		for _, e := range s.told {
			seen[[2]int{e.Kind, int(e.Code)}]++
			if e.Kind == api.EvTrade {
				trades++
			}
		}
		if trades > 1 {
			many++
		}
		if s.c.Kind == api.Replace && s.told[0].Code == api.ErrJump {
			replaced++
		}
		if s.told != nil && s.told[0].Code == api.ErrBand && !namedBeyond(s) {
			tradesBeyond++
		}
	})
	for _, what := range [][2]int{{1, 0}, {3, 0}, {4, 0}, {5, 0}, {20, 0}, {21, 0}, {2, 150}, {2, 151}, {2, 152}, {2, 90}, {2, 91}, {2, 92}, {2, 93}, {2, 94}, {2, 95}, {2, 96}, {2, 97}, {2, 98}, {2, 99}} {
		if seen[what] < 20 {
			t.Errorf("the event %v was told %d times", what, seen[what])
		}
	}
	if tradesBeyond < 20 || replaced < 20 || many < 20 {
		t.Errorf("too few: %d would trade beyond the static band, %d jump by a Replace, %d trade more than once", tradesBeyond, replaced, many)
	}
}

func TestP15_2EverySmallBook(t *testing.T) {
	// All books that sell one at some of four prices (or buy), all bands there, and the orders that may come.
	const prices = 4
	for at := range prices * 5 * 4 * 4 {
		s := api.Band{Reference: at % 4, Last: at / 4 % 5, HasLast: true, Static: at / 20 % 4, Dynamic: at / 80}
		if s.Last == prices {
			s.Last, s.HasLast = 0, false
		}
		for set := range 1 << prices {
			for side := api.Buy; side <= api.Sell; side++ {
				x := resting(set, side)
				g := restored(t, api.Tree, s, x)
				for _, c := range coming(3-side, prices) {
					m := &model{book: x, band: s}
					Same(t, "Restore", g.Restore(s, x), api.OK)
					SameList(t, "Do", g.Do(c), m.do(t, c))
					Same(t, "State", g.State(), m.band)
					Keeps(t, g, m.book)
				}
			}
		}
	}
}

// resting is a book in which an order of one side stands at each price of a set.
func resting(set, side int) api.Book {
	x := api.Book{Config: api.Config{Capacity: 9}, High: 10}
	for price := range 4 {
		r := api.Resting{ID: uint64(price + 1), Type: api.Limit, Price: price, Visible: 1}
		if set>>price&1 == 0 {
			continue
		}
		if side == api.Sell {
			x.Sells = append(x.Sells, r)
		} else {
			x.Buys = append([]api.Resting{r}, x.Buys...)
		}
	}
	return x
}

// coming is orders that may meet those that rest.
func coming(side, prices int) []api.Command {
	l := []api.Command{market(11, side, 1), market(11, side, 3)}
	for price := range prices {
		l = append(l, Order(11, side, api.Limit, price, 1), Order(11, side, api.IOC, price, 2), Order(11, side, api.FOK, price, 2), Order(11, side, api.Limit, price, 9))
	}
	return l
}

func TestP15_5InTheBands(t *testing.T) {
	var trades int
	runs(t, 5000, func(t *testing.T, mix *Mixer, w *trio, s step) {
		from := s.band.Reference
		if s.band.HasLast {
			from = s.band.Last
		}
		for _, e := range s.told {
			if e.Kind != api.EvTrade {
				continue
			}
			trades++
			if apart(e.Price, s.band.Reference) > s.band.Static || apart(e.Price, from) > s.band.Dynamic || s.band.Halted {
				t.Fatalf("a trade at %d, where there was %+v", e.Price, s.band)
			}
		}
	})
	if trades < 1000 {
		t.Errorf("only %d trades", trades)
	}
}

func TestP15_6WholeOrNot(t *testing.T) {
	var refused, would int
	runs(t, 9000, func(t *testing.T, mix *Mixer, w *trio, s step) {
		if len(s.told) == 0 || s.told[0].Kind != api.EvReject {
			return
		}
		want := s.book
		code := s.told[0].Code
		if own := code == api.ErrHalted || code == api.ErrBand || code == api.ErrJump; !own {
			want.Seq++
		} else {
			refused++
		}
		for _, g := range w.guards {
			Keeps(t, g, want)
		}
		// What is refused for a trade is not done in part: some of its trades would have been in the bands.
		if code == api.ErrJump {
			events, _ := (&model{book: s.book}).played(t, s.c)
			for _, e := range events {
				if e.Kind == api.EvTrade && e.Price != s.told[1].Price {
					would++
					break
				}
			}
		}
	})
	if refused < 1000 || would < 20 {
		t.Errorf("only %d were refused, %d of them behind trades that are in the bands", refused, would)
	}
}

func TestP15_6AnEngineThatIsAskedAllItCan(t *testing.T) {
	each(t, func(t *testing.T, kind int) {
		// Behind what is taken back an engine answers as one that was never asked for it.
		mix := Mixer(31)
		config := api.Config{Capacity: 12, Meet: api.MeetOldest}
		g, twin := over(t, engineOf(t, kind, config), 8, 6, 2), engineOf(t, kind, config)
		back := 0
		for range 3000 {
			c := Likely(&mix, twin.Book().High, 17)
			told := g.Do(c)
			if code := told[0].Code; code == api.ErrBand || code == api.ErrJump {
				back++
			} else {
				SameList(t, "Do", told, Numbered(told[0].Seq-1, twin.Do(c)...))
			}
			if g.State().Halted {
				g.Resume(5 + mix.Below(7))
			}
			Alike(t, g, twin)
		}
		if back < 300 {
			t.Errorf("only %d were taken back", back)
		}
	})
}

func TestP15_7WideBands(t *testing.T) {
	each(t, func(t *testing.T, kind int) {
		for meet := range 4 {
			mix := Mixer(77 + meet)
			config := api.Config{Capacity: 8, Meet: meet}
			reference := []int{0, 3, api.Ticks / 2, api.Ticks - 1}[meet]
			twin, g := engineOf(t, kind, config), over(t, engineOf(t, kind, config), reference, api.Ticks, api.Ticks)
			for range 2000 {
				c := Wild(&mix, twin.Book().High, 7)
				if c.ID > 1<<62 {
					c.ID = 0
				}
				// Some stand at the other end of all prices.
				if c.Kind != api.New || c.Type != api.Market {
					c.Price = Pick(&mix, c.Price, c.Price, api.Ticks-1-c.Price)
				}
				SameList(t, "Do", g.Do(c), twin.Do(c))
				Alike(t, g, twin)
			}
			s := g.State()
			Same(t, "Seq", s.Seq, twin.Book().Seq)
			Same(t, "Halted", s.Halted, false)
			Same(t, "Reference", s.Reference, reference)
		}
	})
}

func TestP15_7WideBandsFromEndToEnd(t *testing.T) {
	each(t, func(t *testing.T, kind int) {
		// The greatest jumps there are.
		g := over(t, engineOf(t, kind, api.Config{Capacity: 4}), api.Ticks-1, api.Ticks, api.Ticks)
		for id := uint64(1); id < 20; id += 4 {
			for _, c := range []api.Command{Buy(id, 0, 1), Sell(id+1, 0, 1), Sell(id+2, api.Ticks-1, 1), market(id+3, api.Buy, 1)} {
				told := g.Do(c)
				Same(t, "what is told", told[0].Kind, api.EvAck)
			}
			Same(t, "Last", g.State().Last, api.Ticks-1)
		}
		// One tick less is too little.
		s := g.State()
		s.Dynamic = api.Ticks - 2
		Same(t, "Restore", g.Restore(s, g.Book()), api.OK)
		does(t, g, Buy(40, 0, 1), Acked(Buy(40, 0, 1)))
		jumps(t, g, Sell(41, 0, 1), 0)
	})
}

func TestP15_8StateAndBookAreEnough(t *testing.T) {
	var moved int
	runs(t, 20000, func(t *testing.T, mix *Mixer, w *trio, s step) {
		// Any of them goes on in another engine, from what any other one keeps.
		for range mix.Below(3) {
			from := Pick(mix, w.guards...)
			w.guards[mix.Below(len(w.guards))] = restored(t, Pick(mix, Kinds()...), from.State(), from.Book())
			moved++
		}
		if mix.Below(8) == 0 {
			from, to := Pick(mix, w.guards...), Pick(mix, w.guards...)
			Same(t, "Restore", to.Restore(from.State(), from.Book()), api.OK)
		}
		// Or the engine alone does, from another one's book.
		if mix.Below(8) == 0 {
			Same(t, "Load", Pick(mix, w.guards...).Load(w.model.book), api.OK)
		}
	})
	if moved < 1000 {
		t.Errorf("only %d were moved", moved)
	}
}

func TestP15_8FromWhateverBook(t *testing.T) {
	// From a state at the ends of what can be: whichever engine, the same is told.
	mix := Mixer(4)
	for _, high := range []uint64{9, math.MaxUint64 - 3, math.MaxUint64} {
		for _, reference := range []int{0, 11, 40, api.Ticks - 1} {
			for dynamic := range 4 {
				s, x := fairBand(), Fair()
				s.Seq, s.Dynamic, s.Reference = math.MaxUint64-2, dynamic, reference
				x.High, x.Seq = high, math.MaxUint64-3
				w := trioOf(t, s, x)
				for range 30 {
					w.do(t, Likely(&mix, w.model.book.High, 16))
				}
				w.resume(t, 9+mix.Below(5))
				for range 30 {
					w.do(t, Likely(&mix, w.model.book.High, 16))
				}
			}
		}
	}
}

func TestP15_8AFullBook(t *testing.T) {
	// A book of as many orders as there can be, all but the last in the bands, and one that takes all of them.
	x := api.Book{Config: api.Config{Capacity: api.MaxOrders}, High: api.MaxOrders}
	for id := range uint64(api.MaxOrders) {
		x.Sells = append(x.Sells, api.Resting{ID: id + 1, Type: api.Limit, Price: 1000 + int(id), Visible: 1})
	}
	w := trioOf(t, api.Band{Reference: 1000, Static: api.Ticks, Dynamic: api.MaxOrders - 2}, x)
	SameList(t, "Do", w.do(t, market(api.MaxOrders+1, api.Buy, api.MaxOrders)), Numbered(0, Rejected(Buy(api.MaxOrders+1, 0, 1), api.ErrJump), api.Event{Kind: api.EvHalt, Price: 999 + api.MaxOrders}))
	w.resume(t, 1001)
	Same(t, "how much is told", len(w.do(t, market(api.MaxOrders+1, api.Buy, api.MaxOrders))), 1+api.MaxOrders)
	Same(t, "Last", w.guards[0].State().Last, 999+api.MaxOrders)
}
