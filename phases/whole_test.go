package phases_test

import (
	"math"
	"slices"
	"testing"

	"bourse/api"
	"bourse/phases"
	. "bourse/sample"
)

// trio is floors in the three engines, and the model, of which all must tell the same.
type trio struct {
	floors []*phases.Floor
	model  *model
}

func trioOf(t *testing.T, s api.Session) *trio {
	t.Helper()
	w := &trio{model: modelOf(s)}
	for _, kind := range []int{api.Tree, api.Ladder, api.List} {
		s.Engine = kind
		w.floors = append(w.floors, made(t, s))
	}
	return w
}

// holds looks whether all told this, and can be asked for what the model keeps.
func (w *trio) holds(t *testing.T, want []api.Event, tell func(f *phases.Floor) []api.Event) []api.Event {
	t.Helper()
	s := w.model.seen(t)
	for _, f := range w.floors {
		SameList(t, "what is told", tell(f), want)
		looked(t, f, s)
	}
	return want
}

func (w *trio) do(t *testing.T, o api.Order) []api.Event {
	t.Helper()
	return w.holds(t, w.model.do(t, o), func(f *phases.Floor) []api.Event { return f.Do(o) })
}

func (w *trio) stop(t *testing.T, s api.Stop) []api.Event {
	t.Helper()
	return w.holds(t, w.model.stop(t, s), func(f *phases.Floor) []api.Event { return f.Stop(s) })
}

func (w *trio) withdraw(t *testing.T, number uint64) []api.Event {
	t.Helper()
	return w.holds(t, w.model.withdraw(t, number), func(f *phases.Floor) []api.Event { return f.Withdraw(number) })
}

func (w *trio) turn(t *testing.T, phase int) []api.Event {
	t.Helper()
	want, refused := w.model.turn(t, phase)
	return w.holds(t, want, func(f *phases.Floor) []api.Event {
		got, why := f.Turn(phase)
		Same(t, "Turn", why, refused)
		return got
	})
}

// swap lets one of the floors go on in another engine, of which nothing can be seen.
func (w *trio) swap(t *testing.T, mix *Mixer) {
	t.Helper()
	f := Pick(mix, w.floors...)
	Same(t, "Swap", f.Swap(Pick(mix, api.Tree, api.Ladder, api.List)), api.OK)
	looked(t, f, w.model.seen(t))
}

// step is a call on all of a trio: the phase and the interests ahead of it, whether it was a turn, and what was told.
type step struct {
	phase     int
	interests []interest
	turned    bool
	told      []api.Event
}

// runs plays days of calls of all kinds, on floors of several shapes; each is shown every answer.
func runs(t *testing.T, seed int, each func(t *testing.T, mix *Mixer, w *trio, s step)) {
	for shape := range 24 {
		mix := Mixer(seed + shape)
		prices := 3 + mix.Below(12)
		w := trioOf(t, api.Session{
			Config:    api.Config{Capacity: Pick(&mix, 1, 4, 12, 30), Meet: shape % 4},
			Reference: mix.Below(prices), Static: Pick(&mix, 2, 4, 8, api.Ticks), Dynamic: Pick(&mix, 0, 1, 2, 4, api.Ticks), Stops: Pick(&mix, 0, 2, 9, 30),
		})
		for range 1200 {
			s := step{phase: w.model.phase, interests: slices.Clone(w.model.entered)}
			opened := s.phase == api.Opened
			switch n := mix.Below(100); {
			case n < 2 || n < 8 && !opened || n < 30 && s.phase == api.Closed:
				s.turned = true
				s.told = w.turn(t, next(&mix, s.phase))
			case n < 12 || n < 40 && opened:
				s.told = w.stop(t, wildStop(&mix, w.model, prices))
			case n < 14 || n < 42 && opened:
				s.told = w.withdraw(t, Pick(&mix, 0, 1, w.model.waits.High, w.model.waits.High-uint64(mix.Below(4)), math.MaxUint64))
			default:
				s.told = w.do(t, api.Order{Command: wild(&mix, w.model, prices), Day: mix.Below(3) == 0})
			}
			each(t, &mix, w, s)
		}
	}
}

// next is a phase to which there may well be a turn from another one.
func next(mix *Mixer, phase int) int {
	if mix.Below(5) == 0 {
		return Pick(mix, 0, 1, 2, 3, 4, -1, 5, math.MaxInt)
	}
	switch phase {
	case api.Closed:
		return api.PreOpen
	case api.Opened:
		return Pick(mix, api.Halted, api.PreClose)
	case api.Halted:
		return Pick(mix, api.Opened, api.Opened, api.PreClose)
	case api.PreClose:
		return api.Closed
	}
	return api.Opened
}

// wild is a command that may be anything; in a call most are of the types that are taken there, and many name an order that there is.
func wild(mix *Mixer, m *model, prices int) api.Command {
	c := Wild(mix, m.book.High, prices)
	if ids := m.ids(); len(ids) > 0 && mix.Below(2) == 0 {
		c.Target = Pick(mix, ids...)
	}
	switch {
	case m.phase == api.Opened:
	case c.Kind == api.New && c.Type > api.Market && mix.Below(3) > 0:
		c.Type = Pick(mix, api.Limit, api.Limit, api.Market)
	case c.Kind == api.Replace && mix.Below(3) == 0:
		// A Market can be replaced by no other one.
		c.Price, c.Peak = 0, 0
	}
	if c.Type == api.Market && c.Kind == api.New && mix.Below(8) > 0 {
		c.Price, c.Peak = 0, 0
	}
	// Great numbers would leave too few for those that come.
	if c.ID > m.book.High+9 {
		c.ID = m.book.High + 1
	}
	return c
}

// wildStop is a stop order that may be anything.
func wildStop(mix *Mixer, m *model, prices int) api.Stop {
	s := WildStop(mix, m.waits.High, prices)
	if s.Number > m.waits.High+9 {
		s.Number = m.waits.High
	}
	return s
}

func TestP16_2P16_3P16_4P16_6AsTheModelTells(t *testing.T) {
	type told struct{ phase, kind, reason, code int }
	n := map[told]int{}
	var phases [5]int
	var letGo, mixed int
	runs(t, 1, func(t *testing.T, mix *Mixer, w *trio, s step) {
		phases[w.model.phase]++
		for i, e := range s.told {
			n[told{s.phase, e.Kind, e.Reason, int(e.Code)}]++
			if e.Kind == api.EvHalt && i > 1 && s.told[i-2].Kind == api.EvTrigger {
				letGo++
			}
			if s.turned && e.Kind == api.EvCancel && e.Reason == api.ByDay && s.told[0].Kind == api.EvPrice {
				mixed++
			}
		}
	})
	for phase, n := range phases {
		if n < 500 {
			t.Errorf("the phase %d was seen %d times", phase, n)
		}
	}
	var wanted []told
	for _, call := range []int{api.PreOpen, api.Halted, api.PreClose} {
		wanted = append(wanted, told{call, 1, 0, 0}, told{call, 4, 1, 0}, told{call, 4, 2, 0}, told{call, 4, 3, 0}, told{call, 3, 0, 0})
		for _, why := range []int{90, 91, 92, 93, 94, 95, 96, 97, 98, 151, 160} {
			wanted = append(wanted, told{call, 2, 0, why})
		}
		wanted = append(wanted, told{call, 9, api.ByVolume, 0}, told{call, 9, api.BySurplus, 0}, told{call, 9, api.ByPressure, 0})
	}
	for _, why := range []int{90, 91, 92, 93, 94, 95, 96, 97, 98, 99, 130, 131, 132, 133, 150, 151, 152} {
		wanted = append(wanted, told{api.Opened, 2, 0, why})
	}
	wanted = append(wanted, told{0, 2, 0, 160}, told{0, 2, 0, 90}, told{0, 2, 0, 91}, told{0, 4, 1, 0}, told{4, 4, 6, 0}, told{2, 6, 6, 0}, told{2, 6, 1, 0}, told{2, 6, 0, 0}, told{2, 7, 0, 0}, told{2, 20, 0, 0})
	for _, what := range wanted {
		if n[what] < 5 {
			t.Errorf("%+v was seen %d times", what, n[what])
		}
	}
	if letGo < 5 || mixed < 5 {
		t.Errorf("only %d halts by stop orders that were let go, %d ends of orders behind a price", letGo, mixed)
	}
}

func TestP16_9WhereverItIsSwapped(t *testing.T) {
	var swaps [5]int
	runs(t, 300, func(t *testing.T, mix *Mixer, w *trio, s step) {
		for range mix.Below(3) {
			w.swap(t, mix)
			swaps[w.model.phase]++
		}
	})
	for phase, n := range swaps {
		if n < 300 {
			t.Errorf("only %d swaps in the phase %d", n, phase)
		}
	}
}

// ledger is what is left of each order, by events alone.
type ledger map[uint64]uint64

func (l ledger) less(t *testing.T, id, qty uint64) {
	t.Helper()
	if qty == 0 || l[id] < qty {
		t.Fatalf("%d of the order %d, of which %d is left", qty, id, l[id])
	}
	l[id] -= qty
	if l[id] == 0 {
		delete(l, id)
	}
}

func (l ledger) note(t *testing.T, told []api.Event) {
	t.Helper()
	for _, e := range told {
		switch e.Kind {
		case api.EvAck:
			Same(t, "what is left of an order that comes", l[e.ID], 0)
			l[e.ID] = e.Qty
		case api.EvTrade:
			l.less(t, e.ID, e.Qty)
			l.less(t, e.Other, e.Qty)
		case api.EvCancel:
			l.less(t, e.ID, e.Qty)
		}
	}
}

func TestP16_7Orders(t *testing.T) {
	var l ledger
	var of *trio
	full := 0
	runs(t, 600, func(t *testing.T, mix *Mixer, w *trio, s step) {
		if of != w {
			l, of = ledger{}, w
		}
		l.note(t, s.told)
		for _, f := range w.floors {
			have := lefts(f)
			Same(t, "how many orders are there", len(have), len(l))
			for id, left := range have {
				Same(t, "what is left", left, l[id])
			}
			Same(t, "Orders", f.Orders(), len(l))
		}
		most := w.model.session.Config.Capacity
		if len(l) > most {
			t.Fatalf("%d orders, where there is room for %d", len(l), most)
		}
		if len(l) == most && s.turned {
			full++
		}
	})
	if full < 20 {
		t.Errorf("only %d turns of a full floor", full)
	}
}

// volume is how much a call would trade at a price.
func volume(l []interest, price int) uint64 {
	var bought, sold uint64
	for _, i := range l {
		switch {
		case i.side == api.Buy && (i.Type == api.Market || i.Price >= price):
			bought += i.Visible
		case i.side == api.Sell && (i.Type == api.Market || i.Price <= price):
			sold += i.Visible
		}
	}
	return min(bought, sold)
}

func TestP16_8OnePrice(t *testing.T) {
	var crossed int
	runs(t, 900, func(t *testing.T, mix *Mixer, w *trio, s step) {
		if !s.turned || len(s.told) == 0 {
			return
		}
		var traded uint64
		for _, e := range s.told {
			if e.Kind == api.EvTrade {
				Same(t, "the price", e.Price, s.told[0].Price)
				traded += e.Qty
			}
		}
		if s.told[0].Kind == api.EvPrice {
			crossed++
			Same(t, "what is traded", traded, s.told[0].Qty)
			Same(t, "the volume at the price", traded, volume(s.interests, s.told[0].Price))
			Same(t, "Reference", w.floors[0].Reference(), s.told[0].Price)
		}
		for _, f := range w.floors {
			x := f.Book()
			if len(x.Buys) > 0 && len(x.Sells) > 0 && x.Buys[0].Price >= x.Sells[0].Price {
				t.Fatalf("crossed: %+v", x)
			}
		}
		if phase := w.model.phase; phase != api.Opened && phase != api.Closed {
			Same(t, "what a turn to a call trades", traded, 0)
			return
		}
		for price := -1; price < 20; price++ {
			if more := volume(s.interests, price); more > traded {
				t.Fatalf("at %d %d would have been traded, and not %d", price, more, traded)
			}
		}
	})
	if crossed < 100 {
		t.Errorf("only %d turns had a price", crossed)
	}
}

func TestP16_10TheDaysEnd(t *testing.T) {
	var ended, stayed int
	runs(t, 1500, func(t *testing.T, mix *Mixer, w *trio, s step) {
		if !s.turned || len(s.told) == 0 || w.model.phase != api.Closed {
			return
		}
		for _, e := range s.told {
			if e.Reason == api.ByDay {
				ended++
			}
		}
		for _, f := range w.floors {
			SameList(t, "Pending", f.Pending(), nil)
			for id := range f.High() + 2 {
				Same(t, "IsDay", f.IsDay(id), false)
			}
			stayed += f.Orders()
		}
	})
	if ended < 20 || stayed < 20 {
		t.Errorf("only %d orders ended with their day, and %d did not", ended, stayed)
	}
}

func TestP16_11StopNumbers(t *testing.T) {
	var of *trio
	var high uint64
	var again [5]int
	runs(t, 2000, func(t *testing.T, mix *Mixer, w *trio, s step) {
		if of != w {
			of, high = w, 0
		}
		for _, e := range s.told {
			if e.Kind != api.EvStop || e.Reason != 0 {
				continue
			}
			if e.ID <= high {
				t.Fatalf("the number %d is taken behind %d", e.ID, high)
			}
			high = e.ID
		}
		if high == 0 {
			return
		}
		// Whichever was taken, it is refused: in Opened for its number, ahead of all else.
		why := api.ErrPhase
		if w.model.phase == api.Opened {
			why = api.ErrNumber
		}
		number := 1 + mix.Next()%high
		told := w.stop(t, Stop(number, 0, market(0, api.Sell, 1)))
		SameList(t, "Stop", told, Numbered(told[0].Seq-1, api.Event{Kind: api.EvReject, ID: number, Code: why}))
		again[w.model.phase]++
	})
	for phase, n := range again {
		if n < 100 {
			t.Errorf("only %d numbers were tried again in the phase %d", n, phase)
		}
	}
}

func TestP16_4NumbersWithoutAGap(t *testing.T) {
	var of *trio
	var seq uint64
	runs(t, 2500, func(t *testing.T, mix *Mixer, w *trio, s step) {
		if of != w {
			of, seq = w, 0
		}
		for i, e := range s.told {
			seq++
			Same(t, "Seq", e.Seq, seq)
			// Wherever a phase begins, that is told last.
			Same(t, "whether it is the last one", e.Kind == api.EvPhase, i == len(s.told)-1 && w.model.phase != s.phase)
		}
	})
}
