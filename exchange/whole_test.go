package exchange_test

import (
	"fmt"
	"math"
	"slices"
	"testing"

	"bourse/accounts"
	"bourse/api"
	"bourse/exchange"
	"bourse/num"
	. "bourse/sample"
	"bourse/session"
)

// run is a twin at the beginning of a run: some instruments, some members, of whom some are dialled.
func run(t *testing.T, mix *Mixer) *twin {
	t.Helper()
	tariff := api.Tariff{Maker: uint32(mix.Below(3)), Taker: uint32(mix.Below(5)), By: 100}
	cents := uint64(mix.Below(3000))
	x, why := exchange.New(tariff, cents)
	Same(t, "New", why, api.OK)
	w := &twin{x: x, m: modelOf(t, tariff, cents), clients: map[uint32]*session.Session{}, way: map[uint32][][]byte{}, refs: map[uint32]uint64{}}
	for _, member := range []uint32{7, 8} {
		w.join(t, mix, member)
	}
	for range 1 + mix.Below(2) {
		w.list(t, mix)
	}
	w.join(t, mix, 9)
	for _, member := range []uint32{7, 8, 9} {
		if mix.Below(3) > 0 {
			w.dial(t, member)
		}
	}
	return w
}

func (w *twin) join(t *testing.T, mix *Mixer, member uint32) {
	t.Helper()
	l, fund, cents := open, uint64(mix.Below(500)), uint64(mix.Below(100000))
	if mix.Below(3) == 0 {
		l = api.Limits{Order: 15, Open: 25, Count: 3, Position: 20, Worth: 900}
	}
	Same(t, "Join", w.x.Join(member, l, fund, cents), api.OK)
	w.m.join(t, member, l, fund, cents)
	if mix.Below(4) > 0 { // else it falls soon
		w.pay(t, member, 1<<20)
	}
	w.refs[member] = 0
}

func (w *twin) list(t *testing.T, mix *Mixer) {
	t.Helper()
	s := api.Session{
		Config: api.Config{Capacity: 2 + mix.Below(14), Meet: mix.Below(4)}, Engine: Pick(mix, Kinds()...),
		Reference: 60, Static: Pick(mix, 8, 15, api.Ticks), Dynamic: Pick(mix, 3, 6, api.Ticks), Stops: mix.Below(5),
	}
	part := uint32(mix.Below(4))
	name := []string{"ABC", "XYZ", "B"}[len(w.m.places)]
	n, why := w.x.List(name, s, part, 10)
	Same(t, "List", why, api.OK)
	w.m.list(t, name, s, part, 10)
	Same(t, "List", int(n), len(w.m.places))
}

func (w *twin) dial(t *testing.T, member uint32) {
	t.Helper()
	const name = "CLIENT"
	Same(t, "Dial", w.x.Dial(member, name), w.m.dial(member, name))
	c, _ := session.New(name, "BRS", true)
	lines, _ := c.Begin()
	w.clients[member] = c
	w.way[member] = append(w.way[member], lines...)
}

// likely is a request that may well be taken.
func (w *twin) likely(mix *Mixer) api.Request {
	q := api.Request{Member: Pick[uint32](mix, 7, 8, 9), Instrument: uint32(1 + mix.Below(len(w.m.places)))}
	q.Kind = Pick(mix, 1, 1, 1, 1, 1, 1, 2, 3, 3, 4, 4, 5)
	q.Side = Pick(mix, 1, 2)
	q.Type = Pick(mix, 1, 1, 1, 1, 1, 2, 3, 4, 5)
	q.Price = 52 + mix.Below(17)
	if q.Type == api.Market && q.Kind != api.Replace {
		q.Price = 0
	}
	q.Qty = uint64(1 + mix.Below(12))
	if q.Type == api.Limit && mix.Below(4) == 0 {
		q.Peak = 1 + mix.Next()%q.Qty
	}
	q.Trigger = 52 + mix.Below(17)
	q.Day = mix.Below(3) == 0
	q.Ref = 1 + w.refs[q.Member]
	q.Target = q.Ref - min(q.Ref-1, uint64(1+mix.Below(5)))
	return q
}

// wild is a likely request of which a field may be anything.
func (w *twin) wild(mix *Mixer) api.Request {
	q := w.likely(mix)
	switch mix.Below(80) {
	case 0:
		q.Member = Pick[uint32](mix, 0, 1, math.MaxUint32)
	case 1:
		q.Instrument = Pick[uint32](mix, 0, 4, math.MaxUint32)
	case 2:
		q.Kind = Pick(mix, math.MinInt, -1, 0, 6, math.MaxInt)
	case 3:
		q.Ref = Pick(mix, 0, 1, q.Target)
	case 4:
		q.Target = Pick(mix, 0, q.Ref, math.MaxUint64)
	case 5:
		q.Price = Pick(mix, -1, 0, api.Ticks, math.MaxInt)
	case 6:
		q.Qty = Pick(mix, 0, api.MaxQty, math.MaxUint64, q.Qty*10)
	case 7:
		q.Side, q.Type = mix.Below(4), mix.Below(7)
	case 8:
		q.Trigger = Pick(mix, -1, api.Ticks)
	case 9:
		q.Peak = Pick(mix, q.Qty+1, math.MaxUint64)
	}
	return q
}

// asks lets a request come, by call or by letter.
func (w *twin) asks(t *testing.T, mix *Mixer) {
	t.Helper()
	q := w.wild(mix)
	if _, there := w.refs[q.Member]; there {
		w.refs[q.Member] = max(w.refs[q.Member], min(q.Ref, 1<<40))
	}
	c := w.clients[q.Member]
	if c == nil || mix.Below(2) == 0 || q.Kind > api.Replace {
		w.send(t, q)
		return
	}
	name := "NONE"
	if p := w.m.place(q.Instrument); p != nil {
		name = p.name
	}
	l := mail(q, name)
	if mix.Below(15) == 0 {
		at := mix.Below(len(l.Tags))
		l.Tags[at].Value = Pick(mix, "0", "1", "2", "7", "XYZ", "07")
	}
	lines, _ := c.Send(l)
	w.way[q.Member] = append(w.way[q.Member], lines...)
}

// passes lets lines come that clients sent; now and then one is lost, comes again, or is spoilt.
func (w *twin) passes(t *testing.T, mix *Mixer) {
	t.Helper()
	for _, member := range []uint32{7, 8, 9} {
		for range min(len(w.way[member]), 1+mix.Below(4)) {
			at := mix.Below(min(2, len(w.way[member])))
			b := w.way[member][at]
			if mix.Below(8) > 0 {
				w.way[member] = slices.Delete(w.way[member], at, at+1)
			}
			switch mix.Below(20) {
			case 0: // lost
				continue
			case 1:
				b = append([]byte(nil), b...)
				b[mix.Below(len(b))] ^= 1
			}
			w.take(t, member, b)
		}
	}
}

// hear lets clients take what waits for them.
func (w *twin) hear(t *testing.T, mix *Mixer) {
	t.Helper()
	for _, member := range []uint32{0, 7, 8, 9} {
		for _, b := range w.lines(t, member) {
			if mix.Below(10) == 0 {
				continue
			}
			_, lines, _ := w.clients[member].Take(b)
			w.way[member] = append(w.way[member], lines...)
		}
	}
}

// step lets something happen.
func (w *twin) step(t *testing.T, mix *Mixer) {
	t.Helper()
	switch n := mix.Below(100); {
	case n < 72:
		w.asks(t, mix)
	case n < 84:
		w.turnSome(t, mix)
	case n < 85:
		w.kill(t, Pick[uint32](mix, 7, 8, 9, 5))
	case n < 87:
		w.revive(t, Pick[uint32](mix, 7, 8, 9, 5))
	case n < 89:
		Same(t, "Swap", w.x.Swap(uint32(1+mix.Below(len(w.m.places))), Pick(mix, Kinds()...)), api.OK)
	case n < 91:
		if mix.Below(2) == 0 {
			w.ends(t)
		}
		w.settle(t)
	case n < 92:
		w.pay(t, Pick[uint32](mix, 7, 8, 9, 5), uint64(mix.Below(2000)))
	case n < 97:
		w.tick()
		for member, c := range w.clients {
			w.way[member] = append(w.way[member], c.Tick()...)
		}
	case n < 98 && len(w.m.places) < 3:
		w.list(t, mix)
	case n < 99:
		w.dial(t, Pick[uint32](mix, 7, 8, 9))
	}
	w.passes(t, mix)
	w.hear(t, mix)
}

// turnSome turns an instrument, most often as a day goes.
func (w *twin) turnSome(t *testing.T, mix *Mixer) {
	t.Helper()
	n := uint32(1 + mix.Below(len(w.m.places)))
	next := map[int][]int{0: {1}, 1: {2}, 2: {4, 3}, 3: {2, 4}, 4: {0}}[w.x.Phase(n)]
	phase := Pick(mix, next...)
	if mix.Below(8) == 0 {
		phase = mix.Below(6) - 1
	}
	// Most is done while it is opened.
	if w.x.Phase(n) == api.Opened && mix.Below(5) > 0 {
		return
	}
	w.turn(t, n, phase)
}

// ends turns all instruments to their day's end.
func (w *twin) ends(t *testing.T) {
	t.Helper()
	for i := range w.m.places {
		n := uint32(i + 1)
		for w.x.Phase(n) != api.Closed {
			w.turn(t, n, map[int]int{1: 2, 2: 4, 3: 4, 4: 0}[w.x.Phase(n)])
		}
	}
}

// runs plays runs, and looks at each behind each step.
func runs(t *testing.T, seed, times, steps int, look func(w *twin)) []*twin {
	t.Helper()
	mix := Mixer(seed)
	var all []*twin
	for range times {
		w := run(t, &mix)
		for range steps {
			w.step(t, &mix)
			look(w)
		}
		for range 2 {
			w.ends(t)
			w.settle(t)
			look(w)
		}
		all = append(all, w)
	}
	return all
}

// Whatever is asked, by call or by letter, and whatever happens on the way: all is told as the model tells it, in whatever engine, also where those are changed.
func TestP26_15Model(t *testing.T) {
	kinds, codes, outs := map[int]int{}, map[api.Errno]int{}, 0
	for _, w := range runs(t, 2615, 100, 150, func(w *twin) { w.looked(t) }) {
		for _, r := range w.m.reports {
			kinds[r.Event.Kind]++
			codes[r.Event.Code]++
		}
		for _, m := range []uint32{7, 8, 9} {
			if s, _ := w.x.Margin(m); s.Out {
				outs++
			}
		}
	}
	for _, k := range []int{1, 2, 3, 4, 5, 6, 7, 8, 9, 20} {
		Same(t, fmt.Sprint("whether events of the kind ", k, " are told"), kinds[k] > 20, true)
	}
	for _, c := range []api.Errno{90, 91, 92, 93, 94, 95, 96, 98, 99, 130, 131, 133, 151, 152, 160, 200, 211, 213, 214, 215, 216, 217, 221, 260, 262} {
		Same(t, fmt.Sprint("whether something is refused for ", int(c)), codes[c] > 0, true)
	}
	Same(t, "whether members fall", outs > 20, true)
}

// Every cent is somewhere, and what one has another one owes.
func TestP26_13Money(t *testing.T) {
	runs(t, 2613, 40, 120, func(w *twin) {
		var had, has num.Money
		for _, m := range []uint32{7, 8, 9} {
			has, _ = has.Add(w.x.Cash(m))
		}
		has, _ = has.Add(w.x.Fees())
		outside := w.m.ledger.Balance(api.Account{Kind: api.Outside})
		had = outside.Neg()
		Same(t, "all cash and fees", has.Text(), had.Text())
		Same(t, "whether fees are below 0", w.x.Fees().Sign() < 0, false)
		for i := range w.m.places {
			sum := int64(0)
			for _, m := range []uint32{7, 8, 9} {
				sum += w.x.Position(m, uint32(i+1)).Qty
			}
			Same(t, "all positions", sum, 0)
		}
	})
}

// Money alone, with no ledger beside: what was brought when members joined is there behind every trade.
func TestP26_13Deposits(t *testing.T) {
	var mix Mixer = 26131
	x := opened(t, 7, 8, 9)
	for n := range uint64(600) {
		x.Send(order(Pick[uint32](&mix, 7, 8, 9), n+1, Pick(&mix, 1, 2), Pick(&mix, api.Limit, api.IOC), 97+mix.Below(7), uint64(1+mix.Below(40))))
		sum := x.Fees()
		for _, m := range []uint32{7, 8, 9} {
			sum, _ = sum.Add(x.Cash(m))
		}
		Same(t, "all cash and fees", sum.Text(), "3000.00")
	}
	Same(t, "whether much was traded", x.Bar(1).Trades > 200, true)
	var none accounts.Position
	Same(t, "whether there are positions", x.Position(7, 1) == none, false)
}

// fate is what a member was told of one of its numbers.
type fate struct{ acked, traded, cancelled uint64 }

// fates is what became of all orders, from their members' reports alone.
func fates(t *testing.T, w *twin) map[uint32]map[own]*fate {
	t.Helper()
	all := map[uint32]map[own]*fate{}
	for i := range w.m.places {
		all[uint32(i+1)] = map[own]*fate{}
	}
	for _, r := range w.m.reports {
		e, o := r.Event, own{r.Member, r.Ref}
		if e.Kind == 2 {
			continue
		}
		here := all[r.Instrument]
		if e.Kind == 1 {
			Same(t, "whether a number was acked already", here[o] == nil, true)
			Same(t, "whose it is", e.Member, r.Member)
			here[o] = &fate{acked: e.Qty}
			continue
		}
		if e.Kind != 3 && e.Kind != 4 && e.Kind != 5 {
			continue
		}
		f := here[o]
		if f == nil {
			t.Fatalf("told of a number that was not acked: %+v", r)
		}
		switch e.Kind {
		case 3:
			f.traded += e.Qty
		case 4:
			f.cancelled += e.Qty
		}
		Same(t, "whether more is told than was acked", f.traded+f.cancelled <= f.acked, true)
	}
	return all
}

// Of each number of a member's own, what was traded, cancelled and is left is what was acked; and nobody is told a number that it did not use.
func TestP26_14OwnNumbers(t *testing.T) {
	var mix Mixer = 2614
	for range 60 {
		w := run(t, &mix)
		for range 120 {
			w.step(t, &mix)
		}
		for _, r := range w.m.reports {
			if r.Event.Kind == 2 && r.Event.Seq == 0 {
				continue // its own request, as it was
			}
			Same(t, "whether it used that number", r.Ref <= 1<<40 && r.Ref <= w.refs[r.Member], true)
		}
		for phase := range 2 { // in the midst of a day, and at its end
			if phase == 1 {
				w.ends(t)
			}
			for i, l := range fates(t, w) {
				open := map[uint32]uint64{}
				var lefts []uint64
				for o, f := range l {
					if left := f.acked - f.traded - f.cancelled; left > 0 {
						open[o.member] += left
						lefts = append(lefts, left)
					}
				}
				for _, m := range []uint32{7, 8, 9} {
					s, _ := w.x.Standing(m, i)
					Same(t, "what is left", open[m], s.Buys+s.Sells)
				}
				if w.x.Phase(i) == api.Closed || w.x.Phase(i) == api.Opened {
					var there []uint64
					x := w.x.Book(i)
					for _, o := range append(x.Buys, x.Sells...) {
						there = append(there, o.Visible+o.Hidden)
					}
					slices.Sort(there)
					slices.Sort(lefts)
					SameList(t, "what is there", there, lefts)
				}
			}
		}
	}
}

// Reports are numbered from 1 on, whoever they are told to, and by whatever call.
func TestP26_16Numbers(t *testing.T) {
	var mix Mixer = 2617
	for range 20 {
		w := run(t, &mix)
		w.clients = map[uint32]*session.Session{} // no letters: all that is told is answered
		w.way = map[uint32][][]byte{}
		for range 120 {
			w.stepByCall(t, &mix)
		}
		w.ends(t)
		w.settle(t)
		seq := uint64(0)
		for _, l := range w.told {
			for _, r := range l {
				seq++
				Same(t, "Seq", r.Seq, seq)
			}
		}
		Same(t, "Seq", w.x.Seq(), seq)
	}
}

func (w *twin) stepByCall(t *testing.T, mix *Mixer) {
	t.Helper()
	switch n := mix.Below(20); {
	case n < 15:
		q := w.wild(mix)
		if _, there := w.refs[q.Member]; there {
			w.refs[q.Member] = max(w.refs[q.Member], min(q.Ref, 1<<40))
		}
		w.send(t, q)
	case n < 17:
		w.turnSome(t, mix)
	case n < 18:
		w.kill(t, Pick[uint32](mix, 7, 8, 9))
	case n < 19:
		w.revive(t, Pick[uint32](mix, 7, 8, 9))
	default:
		w.settle(t)
	}
}

// Whatever swaps there are, all that is told and can be asked is the same as without them.
func TestP26_15Swaps(t *testing.T) {
	var mix Mixer = 26151
	for range 12 {
		var all []*twin
		seed := mix
		for kind := range 4 {
			again := seed
			w := run(t, &again)
			swaps := Mixer(kind)
			for range 150 {
				w.step(t, &again)
				for i := range w.m.places {
					if kind > 0 && swaps.Below(3) == 0 {
						Same(t, "Swap", w.x.Swap(uint32(i+1), Pick(&swaps, Kinds()...)), api.OK)
					}
				}
			}
			all = append(all, w)
			mix = again
		}
		for _, w := range all[1:] {
			Same(t, "calls", len(w.told), len(all[0].told))
			for i, l := range w.told {
				SameList(t, "what is told", l, all[0].told[i])
			}
			Same(t, "what can be asked", asked(w.x), asked(all[0].x))
		}
	}
}

// Who is out has no orders, and gets none.
func TestP26_17NoOrders(t *testing.T) {
	out := 0
	runs(t, 26171, 50, 120, func(w *twin) {
		for _, m := range []uint32{7, 8, 9} {
			s, _ := w.x.Margin(m)
			if !s.Out {
				continue
			}
			out++
			for i := range w.m.places {
				st, _ := w.x.Standing(m, uint32(i+1))
				Same(t, "Count", st.Count, 0)
				x := w.x.Book(uint32(i + 1))
				for _, o := range append(x.Buys, x.Sells...) {
					Same(t, "whose an order is", o.Member == m, false)
				}
			}
		}
	})
	Same(t, "whether members were out", out > 20, true)
}
