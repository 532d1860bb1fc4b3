package stops_test

import (
	"fmt"
	"math"
	"slices"
	"testing"

	"bourse/api"
	. "bourse/sample"
	"bourse/stops"
)

// trio is Books over the three engines, and the model, of which all must tell the same.
type trio struct {
	books []*stops.Book
	model *model
}

func trioOf(t *testing.T, c api.Config, most int) trio {
	t.Helper()
	w := trio{model: modelOf(api.Stops{Most: most}, api.Book{Config: c})}
	for _, kind := range Kinds() {
		w.books = append(w.books, over(t, engineOf(t, kind, c), most))
	}
	return w
}

// call makes one on all.
func (w trio) call(t *testing.T, do api.Command, wait api.Stop, number uint64, what int) []api.Event {
	t.Helper()
	var want []api.Event
	switch what {
	case 0:
		want = w.model.do(t, do)
	case 1:
		want = w.model.place(t, wait)
	default:
		want = w.model.withdraw(t, number)
	}
	for _, b := range w.books {
		var got []api.Event
		switch what {
		case 0:
			got = b.Do(do)
		case 1:
			got = b.Place(wait)
		default:
			got = b.Withdraw(number)
		}
		SameList(t, "what is told", got, want)
		keeps(t, b, w.model.state())
		Keeps(t, b, w.model.book)
	}
	return want
}

// runs plays long runs of calls of all kinds, in books of several shapes; each is shown every answer.
func runs(t *testing.T, seed int, each func(t *testing.T, mix *Mixer, w *trio, told []api.Event)) {
	for _, most := range []int{0, 1, 5, 30} {
		for meet := range 4 {
			mix := Mixer(seed + 100*most + meet)
			w := trioOf(t, api.Config{Capacity: 3 + 7*meet, Meet: meet}, most)
			prices := 3 + mix.Below(10)
			for range 900 {
				s := w.model.state()
				do, wait := Wild(&mix, w.model.book.High, prices), WildStop(&mix, s.High, prices)
				// The greatest numbers would leave none for those that come.
				if do.ID > 1<<62 {
					do.ID = w.model.book.High + 1
				}
				if wait.Number > 1<<62 {
					wait.Number = s.High
				}
				each(t, &mix, &w, w.call(t, do, wait, number(&mix, s), Pick(&mix, 0, 0, 0, 0, 1, 1, 1, 1, 2)))
			}
		}
	}
}

func TestP13_2P13_3P13_4P13_5AsTheModelTells(t *testing.T) {
	seen, again := map[string]int{}, 0
	runs(t, 1, func(t *testing.T, mix *Mixer, w *trio, told []api.Event) {
		for i, e := range told {
			seen[fmt.Sprint(e.Kind, e.Reason, int(e.Code))]++
			if e.Kind == api.EvTrigger && i > 0 && told[i-1].Kind == api.EvReject {
				again++
			}
		}
	})
	for _, what := range []string{"6 0 0", "6 1 0", "7 0 0", "3 0 0", "2 0 130", "2 0 131", "2 0 132", "2 0 133", "2 0 92", "2 0 93", "2 0 94", "2 0 95", "2 0 96", "2 0 98", "2 0 99"} {
		if seen[what] < 20 {
			t.Errorf("%q was told %d times", what, seen[what])
		}
	}
	if again < 5 {
		t.Errorf("only %d were let go behind one that was refused", again)
	}
}

func TestP13_7NothingMetWaits(t *testing.T) {
	waited := 0
	runs(t, 5000, func(t *testing.T, mix *Mixer, w *trio, told []api.Event) {
		for _, b := range w.books {
			last, there := b.Last()
			for _, s := range b.Pending() {
				if there && (s.Side == api.Buy && last >= s.Trigger || s.Side == api.Sell && last <= s.Trigger) {
					t.Fatalf("%+v waits at the last price %d", s, last)
				}
				waited++
			}
		}
	})
	if waited < 1000 {
		t.Errorf("only %d waited", waited)
	}
}

// fates is what became of stop orders, by events alone: whether each waits yet.
type fates map[uint64]bool

func (f fates) note(t *testing.T, told []api.Event) {
	t.Helper()
	for _, e := range told {
		waits, known := f[e.ID]
		switch {
		case e.Kind == api.EvStop && e.Reason == 0:
			Same(t, "whether it was taken already", known, false)
			f[e.ID] = true
		case e.Kind == api.EvStop || e.Kind == api.EvTrigger:
			Same(t, "whether it waited", waits, true)
			f[e.ID] = false
		}
	}
}

func (f fates) waiting() []uint64 {
	var l []uint64
	for n, waits := range f {
		if waits {
			l = append(l, n)
		}
	}
	slices.Sort(l)
	return l
}

func TestP13_8Once(t *testing.T) {
	var f fates
	var of *model
	runs(t, 9000, func(t *testing.T, mix *Mixer, w *trio, told []api.Event) {
		if of != w.model {
			f, of = fates{}, w.model
		}
		f.note(t, told)
		for _, b := range w.books {
			var l []uint64
			for _, s := range b.Pending() {
				l = append(l, s.Number)
			}
			SameList(t, "those that wait", l, f.waiting())
		}
	})
}

func TestP13_8EachOrderComesOnce(t *testing.T) {
	// Behind each EvTrigger the engine tells of an order of that ID: that it was taken, or refused.
	runs(t, 12000, func(t *testing.T, mix *Mixer, w *trio, told []api.Event) {
		for i, e := range told {
			if e.Kind == api.EvTrigger {
				next := told[i+1]
				Same(t, "whose event comes next", next.ID, e.Other)
				Same(t, "whether it is taken or refused", next.Kind == api.EvAck || next.Kind == api.EvReject, true)
			}
		}
	})
}

func TestP13_9StateAndBookAreEnough(t *testing.T) {
	var moved int
	runs(t, 20000, func(t *testing.T, mix *Mixer, w *trio, told []api.Event) {
		// Any of them goes on in another engine, from what any other one keeps.
		for range mix.Below(3) {
			from := Pick(mix, w.books...)
			at := mix.Below(len(w.books))
			w.books[at] = restored(t, Pick(mix, Kinds()...), from.State(), from.Book())
			moved++
		}
		if mix.Below(8) == 0 {
			from, to := Pick(mix, w.books...), Pick(mix, w.books...)
			Same(t, "Restore", to.Restore(from.State(), from.Book()), api.OK)
		}
	})
	if moved < 1000 {
		t.Errorf("only %d were moved", moved)
	}
}

func TestP13_9FromWhateverBook(t *testing.T) {
	// From a state at the ends of what can be: whichever engine, the same is told.
	mix := Mixer(4)
	for _, high := range []uint64{5, math.MaxUint64 - 3, math.MaxUint64} {
		s, x := fairState(), Fair()
		s.Seq, x.High, s.High = math.MaxUint64-2, high+4, math.MaxUint64-6
		if high > math.MaxUint64-4 {
			x.High = high
		}
		w := trio{model: modelOf(s, x)}
		for _, kind := range Kinds() {
			w.books = append(w.books, restored(t, kind, s, x))
		}
		for step := range 60 {
			wait := LikelyStop(&mix, w.model.high, 14)
			if wait.Number < 1<<32 {
				wait.Number = math.MaxUint64
			}
			do := Likely(&mix, w.model.book.High, 14)
			w.call(t, do, wait, number(&mix, w.model.state()), step%3)
		}
	}
}

func TestP13_10Beside(t *testing.T) {
	each(t, func(t *testing.T, kind int) {
		for meet := range 4 {
			mix := Mixer(77 + meet)
			c := api.Config{Capacity: 8, Meet: meet}
			twin, b := engineOf(t, kind, c), over(t, engineOf(t, kind, c), 3*meet)
			for range 2000 {
				c := Wild(&mix, twin.Book().High, 7)
				if c.ID > 1<<62 {
					c.ID = 0
				}
				SameList(t, "Do", b.Do(c), twin.Do(c))
				Alike(t, b, twin)
			}
			Same(t, "Seq", b.State().Seq, twin.Book().Seq)
		}
	})
}

func TestP13_10BesideThoseThatAreNeverMet(t *testing.T) {
	each(t, func(t *testing.T, kind int) {
		c := api.Config{Capacity: 8}
		twin, b := engineOf(t, kind, c), over(t, engineOf(t, kind, c), 2)
		places(t, b, Stop(1, 500, market(api.Buy, 1)))
		mix := Mixer(6)
		for range 2000 {
			c := Likely(&mix, twin.Book().High, 7)
			got, want := b.Do(c), twin.Do(c)
			for i := range want {
				want[i].Seq++
			}
			SameList(t, "Do", got, want)
			Alike(t, b, twin)
		}
	})
}

func TestP13_2AsManyAsMayWait(t *testing.T) {
	each(t, func(t *testing.T, kind int) {
		// In a full book each one that is let go moves the price to where the next one waits.
		b := over(t, engineOf(t, kind, api.Config{Capacity: api.MaxOrders}), api.MaxStops)
		for id := range uint64(api.MaxOrders) {
			b.Do(Sell(id+1, int(id), 1))
		}
		for n := range api.MaxStops {
			// The lowest number waits for the highest price.
			places(t, b, Stop(uint64(n+1), api.MaxStops-1-n, market(api.Buy, 1)))
		}
		told := b.Do(Order(api.MaxOrders+1, api.Buy, api.IOC, 0, 1))
		var let []uint64
		for _, e := range told {
			if e.Kind == api.EvTrigger {
				let = append(let, e.ID)
				Same(t, "the order's ID", e.Other, uint64(api.MaxOrders+1+len(let)))
			}
		}
		Same(t, "how many are let go", len(let), api.MaxStops)
		for i, n := range let {
			Same(t, "which one is let go", n, uint64(api.MaxStops-i))
		}
		Same(t, "how much is told", len(told), 2+3*api.MaxStops)
		last, _ := b.Last()
		Same(t, "Last", last, api.MaxOrders-1)
		Same(t, "how many wait", len(b.Pending()), 0)
		Same(t, "Len", b.Len(), 0)
	})
}
