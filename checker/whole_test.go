package checker_test

import (
	"math"
	"slices"
	"testing"

	"bourse/api"
	"bourse/checker"
	. "bourse/sample"
	"bourse/snapshot"
)

// configs is books of little and more room, whatever they do where a member meets itself.
func configs() []api.Config {
	var l []api.Config
	for _, capacity := range []int{1, 2, 4, 9, 30} {
		for meet := range 4 {
			l = append(l, api.Config{Capacity: capacity, Meet: meet})
		}
	}
	return l
}

func TestP19_4EveryBooksLogIsTaken(t *testing.T) {
	for i, c := range configs() {
		for _, engine := range []int{api.Tree, api.Ladder, api.List} {
			mix := Mixer(10*i + engine)
			b, _ := snapshot.Make(engine, c)
			x := made(t, c)
			var log []api.Event
			for range 400 {
				do := Wild(&mix, b.Book().High, 8)
				if mix.Below(4) > 0 {
					do.ID = min(do.ID, b.Book().High+9)
				} else if do.ID > 1<<63 {
					do.ID = b.Book().High
				}
				told := b.Do(do)
				log = append(log, told...)
				for _, e := range told {
					if why := x.Add(e); why != api.OK {
						t.Fatalf("%+v, of %+v: %v", e, do, why)
					}
				}
				Same(t, "Open", x.Open(), false)
				tells(t, x, b.Book())
			}
			checks(t, c, log, len(log), api.OK)
		}
	}
}

// A level of icebergs that is turned round and round, in a book of the greatest capacity.
func TestP19_4AGreatBook(t *testing.T) {
	c := api.Config{Capacity: api.MaxOrders, Meet: api.MeetOldest}
	b, _ := snapshot.Make(api.Ladder, c)
	var log []api.Event
	for id := uint64(1); id <= api.MaxOrders; id++ {
		log = append(log, b.Do(By(Peaked(Sell(id, 10+int(id%2), 16), 1), uint32(id%3)))...)
	}
	log = append(log, b.Do(By(Order(9000, api.Buy, api.FOK, 11, 16*api.MaxOrders), 1))...)
	log = append(log, b.Do(By(Order(9001, api.Buy, api.FOK, 11, 15*api.MaxOrders/2), 1))...)
	checks(t, c, log, len(log), api.OK)
	x := made(t, c)
	for _, e := range log {
		x.Add(e)
	}
	tells(t, x, b.Book())
}

// oneOf is an event that may be wrong in one or two fields.
func oneOf(mix *Mixer, e api.Event) api.Event {
	for range 1 + mix.Below(2) {
		switch mix.Below(14) {
		case 0:
			e.Seq = Pick[uint64](mix, 0, e.Seq-1, e.Seq+1, math.MaxUint64)
		case 1:
			e.Kind = Pick(mix, -1, 0, 1, 2, 3, 4, 5, 6, math.MaxInt)
		case 2:
			e.ID = Pick[uint64](mix, 0, e.ID-1, e.ID+1, e.Other, e.Target, math.MaxUint64)
		case 3:
			e.Other = Pick[uint64](mix, 0, 1, e.Other-1, e.Other+1, e.ID)
		case 4:
			e.Target = Pick[uint64](mix, 0, 1, e.Target-1, e.Target+1, e.ID)
		case 5:
			e.Member = Pick[uint32](mix, 0, 1, 2, 3, math.MaxUint32)
		case 6:
			e.Side = Pick(mix, 0, 1, 2, 3, math.MinInt)
		case 7:
			e.Type = Pick(mix, 0, 1, 2, 3, 4, 5, 6, math.MaxInt)
		case 8:
			e.Price = Pick(mix, -1, 0, e.Price-1, e.Price+1, api.Ticks, math.MinInt)
		case 9:
			e.Qty = Pick(mix, 0, e.Qty-1, e.Qty+1, api.MaxQty, api.MaxQty+1, math.MaxUint64)
		case 10:
			e.Peak = Pick(mix, 0, e.Peak-1, e.Peak+1, 1<<56, math.MaxUint64)
		case 11:
			e.Reason = Pick(mix, -1, 0, 1, 2, 3, 4, 5, 6)
		case 12, 13:
			e.Code = Pick(mix, codes()...)
		}
	}
	return e
}

// invented is an event that may come next, as far as the model knows.
func invented(mix *Mixer, m *model) api.Event {
	x := m.book()
	orders := slices.Concat(x.Buys, x.Sells)
	e := api.Event{Kind: api.EvReject, ID: x.High + uint64(mix.Below(3)), Code: Pick(mix, codes()...)}
	switch draw := mix.Below(10); {
	case len(m.toCome) > 0 && draw < 7:
		e = m.toCome[0]
	case draw < 4 && len(orders) > 0:
		r := Pick(mix, orders...)
		e = Ended(r.ID, r.Visible+r.Hidden, Pick(mix, 1, 1, 2, 2, 2, 3, 4, 5, 6))
	case draw < 8:
		c := Likely(mix, x.High, 6)
		if r := Find(m.is, m.replaced); r.There {
			c.Member, c.Side, c.Type = r.Order.Member, r.Side, r.Order.Type
		}
		e = Acked(c)
	case draw < 9 && len(orders) > 0:
		e.Target = Pick(mix, orders...).ID
	}
	e.Seq = x.Seq + 1
	return e
}

// Whatever is taken, is told by a book of some command; whatever is not, by none: as the model finds out by commands alone.
func TestP19_5NothingElseIs(t *testing.T) {
	seen := map[api.Errno]int{}
	for i, c := range configs() {
		mix := Mixer(1000 + i)
		x, m := made(t, c), modelOf(c)
		for range 2500 {
			e := invented(&mix, m)
			if mix.Below(3) == 0 {
				e = oneOf(&mix, e)
				e.ID = min(e.ID, m.book().High+9)
			}
			before, open := x.Book(), x.Open()
			want := m.add(e)
			if why := x.Add(e); why != want {
				t.Fatalf("%+v: Add(%+v) behind %+v: got %v, wanted %v", c, e, before, why, want)
			}
			seen[want]++
			Same(t, "Open", x.Open(), m.open())
			if want == api.OK {
				tells(t, x, m.book())
			} else {
				Same(t, "Open", x.Open(), open)
				tells(t, x, before)
			}
		}
	}
	for _, why := range []api.Errno{api.OK, api.ErrSeq, api.ErrPlace, api.ErrFirst, api.ErrAmount, api.ErrTicks, api.ErrReason} {
		if seen[why] < 50 {
			t.Errorf("%v was answered %d times", why, seen[why])
		}
	}
}

// otherwise is a trade with one field changed, in every way that may go unseen.
func otherwise(e api.Event) []api.Event {
	var l []api.Event
	for _, turn := range []func(e *api.Event){
		func(e *api.Event) { e.Seq++ },
		func(e *api.Event) { e.Seq-- },
		func(e *api.Event) { e.Kind = api.EvRefresh },
		func(e *api.Event) { e.Kind = api.EvCancel },
		func(e *api.Event) { e.ID++ },
		func(e *api.Event) { e.ID-- },
		func(e *api.Event) { e.Other++ },
		func(e *api.Event) { e.Other-- },
		func(e *api.Event) { e.Target = e.Other },
		func(e *api.Event) { e.Member++ },
		func(e *api.Event) { e.Side = 3 - e.Side },
		func(e *api.Event) { e.Side = 0 },
		func(e *api.Event) { e.Type++ },
		func(e *api.Event) { e.Price++ },
		func(e *api.Event) { e.Price-- },
		func(e *api.Event) { e.Qty++ },
		func(e *api.Event) { e.Qty-- },
		func(e *api.Event) { e.Peak++ },
		func(e *api.Event) { e.Reason++ },
		func(e *api.Event) { e.Code++ },
	} {
		wrong := e
		turn(&wrong)
		l = append(l, wrong)
	}
	return l
}

func TestP19_6NoTradeIsLeftOutOrChanged(t *testing.T) {
	trades := 0
	for i, c := range configs() {
		mix := Mixer(2000 + i)
		log := logOf(c, &mix, 120, 6)
		checks(t, c, log, len(log), api.OK)
		for at, e := range log {
			if e.Kind != api.EvTrade {
				continue
			}
			trades++
			without := Numbered(0, slices.Concat(log[:at], log[at+1:])...)
			if n, why := checker.Check(c, without); why == api.OK || n != at {
				t.Fatalf("without the trade %+v: %d, %v", e, n, why)
			}
			for _, wrong := range otherwise(e) {
				l := slices.Clone(log)
				l[at] = wrong
				if n, why := checker.Check(c, l); why == api.OK || n != at {
					t.Fatalf("%+v in the place of %+v: %d, %v", wrong, e, n, why)
				}
			}
		}
	}
	if trades < 300 {
		t.Errorf("there were %d trades", trades)
	}
}

func TestP19_7Beginnings(t *testing.T) {
	for i, c := range configs() {
		mix := Mixer(3000 + i)
		log := logOf(c, &mix, 150, 6)
		x := made(t, c)
		midst := 0
		for n := range len(log) + 1 {
			if x.Open() {
				checks(t, c, log[:n], n, api.ErrOpen)
				midst++
			} else {
				checks(t, c, log[:n], n, api.OK)
			}
			if n < len(log) {
				Same(t, "Add", x.Add(log[n]), api.OK)
			}
		}
		if midst < 10 {
			t.Errorf("%+v: the log was in the midst of a command %d times", c, midst)
		}
	}
}

// What one checker is told, another one knows nothing of.
func TestP19_7TwoCheckersKnowNothingOfOneAnother(t *testing.T) {
	mix := Mixer(9)
	log := logOf(four, &mix, 200, 6)
	a, b := made(t, four), made(t, four)
	for i, e := range log {
		Same(t, "Add", a.Add(e), api.OK)
		if i%3 == 0 {
			a.Add(e)
		}
	}
	tells(t, b, api.Book{Config: four})
	for _, e := range log {
		Same(t, "Add", b.Add(e), api.OK)
	}
	tells(t, b, a.Book())
}
