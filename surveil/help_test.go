package surveil_test

import (
	"math"
	"slices"
	"testing"

	"bourse/api"
	. "bourse/sample"
	"bourse/surveil"
)

// The tests hold a watch against a model that keeps all that was told, and looks through it from its beginning for each answer.

const (
	last = 1<<32 - 1 // the greatest number of a member
	top  = 1<<64 - 1 // the greatest quantity and ID
)

// usual is the watching of the chapter's examples.
func usual() api.Watching {
	return api.Watching{Span: 5, Layers: 2, Ratio: 3, Least: 4, Move: 10}
}

// quiet is a watching that finds no more than washes, but for long runs.
func quiet() api.Watching {
	return api.Watching{Span: 1000, Layers: 1000, Ratio: 1000, Least: 1000, Move: api.Ticks}
}

func watch(t *testing.T, how api.Watching) *surveil.Watch {
	t.Helper()
	w, why := surveil.New(how)
	Same(t, "New", why, api.OK)
	return w
}

// acked, traded and pulled are the events that a watch looks at; what is none of them is idle.
func acked(id uint64, member uint32, side int) api.Event {
	return Acked(By(Order(id, side, api.Limit, 10, 5), member))
}

func traded(id, other uint64, price int) api.Event { return Traded(id, other, api.Buy, price, 1) }

func pulled(id uint64) api.Event { return Ended(id, 1, api.ByOwner) }

func idle(n int) []api.Event { return make([]api.Event, n) }

// finds tells a watch events, the last of which must be all these alerts, and those ahead of it none.
func finds(t *testing.T, w *surveil.Watch, l []api.Event, want ...api.Alert) {
	t.Helper()
	SameList(t, "Add", w.Add(l), want)
}

func alert(rule int, member uint32, at, order uint64, count int) api.Alert {
	return api.Alert{Rule: rule, Member: member, At: at, Order: order, Count: count}
}

// fact is what the model makes of an event when it is told.
type fact struct {
	kind   int // 1 an order, 3 a trade, 4 a cancel by the owner of a known order
	id     uint64
	member uint32 // whose the order ID is
	side   int    // of the order, if it is none of a trade
	fresh  bool   // it never traded

	rested       uint32 // whose the order Other is
	buyer, sells uint32
	price        int
	qty          uint64
}

// closing is a call of Close, behind so many alerts.
type closing struct {
	behind int
	rule   int
	member uint32
}

type model struct {
	how      api.Watching
	told     []api.Event
	facts    []fact
	alerts   []api.Alert
	closings []closing
}

// owner is the number of the last EvAck of an ID, or -1.
func (m *model) owner(id uint64) int {
	for i := len(m.told) - 1; i >= 0; i-- {
		if m.told[i].Kind == 1 && m.told[i].ID == id {
			return i
		}
	}
	return -1
}

func (m *model) member(id uint64) uint32 {
	if i := m.owner(id); i >= 0 {
		return m.told[i].Member
	}
	return 0
}

// fact is what an event is, behind those that were told.
func (m *model) fact(e api.Event) fact {
	switch {
	case e.Kind == 1:
		return fact{kind: 1, id: e.ID, member: e.Member, side: e.Side}
	case e.Kind == 3:
		f := fact{kind: 3, id: e.ID, member: m.member(e.ID), rested: m.member(e.Other), price: e.Price, qty: e.Qty}
		f.buyer, f.sells = f.rested, f.member
		if e.Side == 1 {
			f.buyer, f.sells = f.member, f.rested
		}
		if f.price < 0 || f.price > 1<<18-1 {
			f.price = 0
		}
		return f
	case e.Kind == 4 && e.Reason == 1 && m.owner(e.ID) >= 0:
		i := m.owner(e.ID)
		f := fact{kind: 4, id: e.ID, member: m.told[i].Member, side: m.told[i].Side, fresh: true}
		for _, later := range m.told[i:] {
			if later.Kind == 3 && (later.ID == e.ID || later.Other == e.ID) {
				f.fresh = false
			}
		}
		return f
	}
	return fact{}
}

// profile is what a member did, but for its alerts.
func (m *model) profile(member uint32) api.Profile {
	var p api.Profile
	if member == 0 {
		return p
	}
	for _, f := range m.facts {
		switch {
		case f.kind == 1 && f.member == member:
			p.Orders++
		case f.kind == 4 && f.member == member:
			p.Cancels++
		case f.kind == 3:
			for _, of := range []uint32{f.member, f.rested} {
				if of == member {
					p.Trades++
				}
			}
			if f.buyer == member {
				p.Bought += f.qty
			}
			if f.sells == member {
				p.Sold += f.qty
			}
		}
	}
	return p
}

// add is one event more, and what is found at it.
func (m *model) add(e api.Event) []api.Alert {
	f := m.fact(e)
	m.told, m.facts = append(m.told, e), append(m.facts, f)
	near := m.facts[max(0, len(m.facts)-m.how.Span):]
	var out []api.Alert
	find := func(rule, count int) {
		if f.member != 0 {
			out = append(out, alert(rule, f.member, uint64(len(m.facts)), e.ID, count))
		}
	}
	switch f.kind {
	case 1:
		if p := m.profile(f.member); p.Orders >= m.how.Least && p.Orders > m.how.Ratio*p.Trades {
			find(3, p.Orders)
		}
	case 3:
		if f.member == f.rested {
			find(1, 0)
		}
		first := near[slices.IndexFunc(near, func(f fact) bool { return f.kind == 3 })]
		if far := f.price - first.price; far > m.how.Move || -far > m.how.Move {
			find(4, max(far, -far))
		}
	case 4:
		if k := layered(near, f); f.fresh && k >= m.how.Layers && slices.ContainsFunc(near, func(g fact) bool { return against(g, f) }) {
			find(2, k)
		}
	}
	m.alerts = append(m.alerts, out...)
	return out
}

// layered is how many cancels of that member and side there are of orders that had not traded.
func layered(near []fact, f fact) int {
	k := 0
	for _, g := range near {
		if g.kind == 4 && g.fresh && g.member == f.member && g.side == f.side {
			k++
		}
	}
	return k
}

// against tells whether a fact is a trade on the other side than that of the order.
func against(g, f fact) bool {
	return g.kind == 3 && (f.side == 1 && g.sells == f.member || f.side != 1 && g.buyer == f.member)
}

func (m *model) shut(rule int, member uint32) (int, api.Errno) {
	n := 0
	for _, c := range m.cases() {
		if c.Rule == rule && c.Member == member && c.Open {
			n++
		}
	}
	if n == 0 {
		return 0, 290
	}
	m.closings = append(m.closings, closing{len(m.alerts), rule, member})
	return n, 0
}

// cases goes through all alerts anew, and what was closed among them.
func (m *model) cases() []api.Case {
	var l []api.Case
	same := func(c api.Case, rule int, member uint32) bool { return c.Rule == rule && c.Member == member }
	for i := range len(m.alerts) + 1 {
		for _, x := range m.closings {
			for j := range l {
				if x.behind == i && same(l[j], x.rule, x.member) {
					l[j].Open = false
				}
			}
		}
		if i == len(m.alerts) {
			break
		}
		a, of := m.alerts[i], -1
		for j, c := range l {
			if same(c, a.Rule, a.Member) {
				of = j
			}
		}
		if of >= 0 && l[of].Open && a.At <= l[of].Last+uint64(m.how.Span) {
			l[of].Last, l[of].Count = a.At, l[of].Count+1
		} else {
			l = append(l, api.Case{Rule: a.Rule, Member: a.Member, First: a.At, Last: a.At, Count: 1, Open: true})
		}
	}
	return l
}

func (m *model) members() []uint32 {
	var l []uint32
	for _, f := range m.facts {
		if f.kind == 1 && f.member != 0 {
			l = append(l, f.member)
		}
	}
	slices.Sort(l)
	return slices.Compact(l)
}

// people are those that events tell of, and some of whom nothing is told.
func people() []uint32 { return []uint32{0, 1, 2, 3, 7, 8, last - 1, last} }

// agrees ends a test where the watch answers otherwise than the model to anything that can be asked.
func agrees(t *testing.T, w *surveil.Watch, m *model) {
	t.Helper()
	Same(t, "Count", w.Count(), uint64(len(m.told)))
	SameList(t, "Members", w.Members(), m.members())
	SameList(t, "Cases", w.Cases(), m.cases())
	for _, n := range people() {
		want := m.profile(n)
		for _, a := range m.alerts {
			if a.Member == n {
				want.Alerts++
			}
		}
		Same(t, "Profile", w.Profile(n), want)
	}
}

// wildWatching is one that can be, at which runs come to alerts soon.
func wildWatching(x *Mixer) api.Watching {
	span := Pick(x, 1, 2, 3, 5, 8, 20, 60, api.MaxSpan)
	return api.Watching{Span: span, Layers: 1 + x.Below(min(span, 4)), Ratio: 1 + x.Below(4), Least: 1 + x.Below(12), Move: Pick(x, 1, 2, 5, 10, 20, api.Ticks-2, api.Ticks-1, api.Ticks)}
}

// wildEvent is one of which most tell of orders that are known; what it says may be anything.
func wildEvent(x *Mixer) api.Event {
	e := api.Event{
		Seq: x.Next(), Kind: Pick(x, 1, 1, 1, 1, 3, 3, 3, 4, 4, 4, 4, 4, 4, 4, 4, 2, 5, 6, 7, 20, 21, 0, -1, math.MinInt, math.MaxInt), ID: uint64(1 + x.Below(30)), Other: uint64(1 + x.Below(60)),
		Target: x.Next(), Member: Pick[uint32](x, 1, 1, 1, 2, 2, 7, 7, 0, last), Side: Pick(x, 1, 1, 1, 2, 2, 2, 0, -1, 3, 1<<32+1, math.MaxInt), Type: x.Below(7), Price: 90 + x.Below(30),
		Qty: uint64(x.Below(12)), Peak: x.Next(), Reason: Pick(x, 1, 1, 1, 1, 1, 1, 1, 1, 1, 1, 2, 3, 4, 0, -1, 9), Code: api.Errno(x.Below(3)),
	}
	if e.Kind == 3 && x.Below(3) > 0 { // few orders trade, so that there are others that never did
		e.ID, e.Other = uint64(1+x.Below(6)), uint64(1+x.Below(6))
	}
	switch x.Below(12) {
	case 0:
		e.Qty = Pick[uint64](x, top, top-1, 1<<63, 0)
	case 1:
		e.Price = Pick(x, math.MinInt, -1, 0, api.Ticks-1, api.Ticks, math.MaxInt)
	case 2:
		e.ID = Pick[uint64](x, 0, top, top-1)
	}
	return e
}

func wildEvents(x *Mixer, n int) []api.Event {
	l := make([]api.Event, n)
	for i := range l {
		l[i] = wildEvent(x)
	}
	return l
}
