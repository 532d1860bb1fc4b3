package phases_test

import (
	"slices"
	"testing"

	"bourse/api"
	"bourse/auction"
	"bourse/bands"
	"bourse/rules"
	. "bourse/sample"
	"bourse/stops"
)

// The tests hold every answer against a model that keeps no engine and no call: for each command a list book, a Guard and a stops Book are made anew, or an auction's call of all interests in the order in which they came.
type model struct {
	session api.Session
	phase   int
	book    api.Book // in Closed and Opened; else without orders
	entered []interest
	band    api.Band
	waits   api.Stops // its High is kept in all phases
	day     map[uint64]bool
	told    []api.Event
}

// interest is an order of a call: Visible is what is left of it.
type interest struct {
	api.Resting
	side int
}

func modelOf(s api.Session) *model {
	return &model{session: s, book: api.Book{Config: s.Config}, day: map[uint64]bool{}}
}

func (m *model) tell(e api.Event) {
	m.book.Seq++
	e.Seq = m.book.Seq
	m.told = append(m.told, e)
}

// all is what was told since it was asked for last.
func (m *model) all() []api.Event {
	l := m.told
	m.told = nil
	return l
}

// list is a book that is opened for one command alone.
func (m *model) list(t *testing.T) *rules.Book {
	t.Helper()
	b, why := rules.New(m.session.Config)
	Same(t, "New", why, api.OK)
	Same(t, "Load", b.Load(m.book), api.OK)
	return b
}

// keep takes over the orders of a book.
func (m *model) keep(x api.Book) { m.book.Buys, m.book.Sells = x.Buys, x.Sells }

// trades lets continuous trading do something, tells what it tells, and turns behind a halt.
func (m *model) trades(t *testing.T, day bool, do func(b *stops.Book) []api.Event) []api.Event {
	t.Helper()
	g, why := bands.New(m.list(t), 0, 0, 0)
	Same(t, "New", why, api.OK)
	Same(t, "Restore", g.Restore(m.band, m.book), api.OK)
	b, why := stops.New(g, 0)
	Same(t, "New", why, api.OK)
	Same(t, "Restore", b.Restore(m.waits, m.book), api.OK)
	halt, last := false, api.Event{}
	for _, e := range do(b) {
		if e.Kind == 1 {
			// An order of a stop order's is acked right behind the EvTrigger that names it.
			m.day[e.ID] = day || last.Kind == 7 && last.Other == e.ID
			m.book.High = e.ID
		}
		halt = halt || e.Kind == 20
		m.tell(e)
		last = e
	}
	m.keep(b.Book())
	m.band, m.waits = g.State(), b.State()
	if halt {
		m.to(t, 3)
	}
	return m.all()
}

func (m *model) do(t *testing.T, o api.Order) []api.Event {
	t.Helper()
	c := o.Command
	day := o.Day && c.Kind == 1 || c.Kind == 3 && m.isDay(c.Target)
	switch m.phase {
	case 2:
		return m.trades(t, day, func(b *stops.Book) []api.Event { return b.Do(c) })
	case 1, 3, 4:
		m.inCall(c, day)
	default:
		if c.Kind == 1 || c.Kind == 3 {
			m.tell(Rejected(c, 160))
			break
		}
		b := m.list(t)
		for _, e := range b.Do(c) {
			m.tell(e)
		}
		m.keep(b.Book())
	}
	return m.all()
}

func (m *model) stop(t *testing.T, s api.Stop) []api.Event {
	t.Helper()
	if m.phase == 2 {
		return m.trades(t, false, func(b *stops.Book) []api.Event { return b.Place(s) })
	}
	m.tell(api.Event{Kind: 2, ID: s.Number, Code: 160})
	return m.all()
}

func (m *model) withdraw(t *testing.T, number uint64) []api.Event {
	t.Helper()
	if m.phase == 2 {
		return m.trades(t, false, func(b *stops.Book) []api.Event { return b.Withdraw(number) })
	}
	m.tell(api.Event{Kind: 2, Target: number, Code: 160})
	return m.all()
}

func (m *model) at(id uint64) int {
	return slices.IndexFunc(m.entered, func(i interest) bool { return i.ID == id })
}

// refusal is what P16.2 refuses a command for in a call.
func (m *model) refusal(c api.Command) api.Errno {
	if c.Kind < 1 || c.Kind > 3 {
		return 90
	}
	at := m.at(c.Target)
	if c.Kind != 1 && at < 0 {
		return 91
	}
	if why := rules.Check(c); why != 0 || c.Kind == 2 {
		return why
	}
	if c.Kind == 1 && c.Type != 1 && c.Type != 2 {
		return 160
	}
	market := c.Kind == 1 && c.Type == 2 || c.Kind == 3 && m.entered[at].Type == 2
	if market && c.Price != 0 {
		return 94
	}
	if market && c.Peak != 0 {
		return 96
	}
	if c.ID <= m.book.High {
		return 97
	}
	if !market && (c.Price > m.session.Reference+m.session.Static || c.Price < m.session.Reference-m.session.Static) {
		return 151
	}
	if c.Kind == 1 && len(m.entered) == m.session.Config.Capacity {
		return 98
	}
	return 0
}

func (m *model) inCall(c api.Command, day bool) {
	if why := m.refusal(c); why != 0 {
		m.tell(Rejected(c, why))
		return
	}
	if c.Kind != 1 {
		at := m.at(c.Target)
		old := m.entered[at]
		m.entered = slices.Delete(m.entered, at, at+1)
		c.Member, c.Side, c.Type = old.Member, old.side, old.Type
		m.tell(Ended(old.ID, old.Visible, map[int]int{2: 1, 3: 2}[c.Kind]))
	}
	if c.Kind == 2 {
		return
	}
	m.tell(Acked(c))
	m.book.High = c.ID
	m.day[c.ID] = day
	m.entered = append(m.entered, interest{api.Resting{ID: c.ID, Member: c.Member, Type: c.Type, Price: c.Price, Visible: c.Qty, Peak: c.Peak}, c.Side})
}

// call is one that all interests are entered into for one question alone.
func (m *model) call(t *testing.T) *auction.Call {
	t.Helper()
	c, why := auction.New(m.session.Reference, m.session.Config.Capacity)
	Same(t, "New", why, api.OK)
	for _, i := range m.entered {
		kind := 1
		if i.Type == 2 {
			kind = 2
		}
		Same(t, "Enter", c.Enter(api.Interest{ID: i.ID, Member: i.Member, Side: i.side, Type: kind, Price: i.Price, Qty: i.Visible}), api.OK)
	}
	return c
}

func (m *model) turn(t *testing.T, phase int) ([]api.Event, api.Errno) {
	t.Helper()
	switch [2]int{m.phase, phase} {
	case [2]int{0, 1}, [2]int{1, 2}, [2]int{3, 2}, [2]int{2, 3}, [2]int{2, 4}, [2]int{3, 4}, [2]int{4, 0}:
		m.to(t, phase)
		return m.all(), 0
	}
	return nil, 160
}

// to does a turn that there is.
func (m *model) to(t *testing.T, phase int) {
	t.Helper()
	switch {
	case phase == 1:
		m.toCall()
	case m.phase == 2:
		for _, s := range m.waits.List {
			m.tell(Stopped(s, 6))
		}
		m.waits.List = nil
		m.toCall()
	case phase == 2:
		m.uncross(t)
		m.band = api.Band{Reference: m.session.Reference, Static: m.session.Static, Dynamic: m.session.Dynamic}
		m.waits = api.Stops{Most: m.session.Stops, High: m.waits.High}
	case phase == 0:
		m.uncross(t)
		m.endDay()
	}
	m.phase = phase
	m.tell(begins(phase, m.session.Reference))
}

func (m *model) toCall() {
	for side, l := range [][]api.Resting{1: m.book.Buys, 2: m.book.Sells} {
		for _, r := range l {
			r.Visible, r.Hidden = r.Visible+r.Hidden, 0
			m.entered = append(m.entered, interest{r, side})
		}
	}
	m.keep(api.Book{})
}

// less takes so much of an interest; it is gone where nothing is left.
func (m *model) less(id, qty uint64) {
	at := m.at(id)
	m.entered[at].Visible -= qty
	if m.entered[at].Visible == 0 {
		m.entered = slices.Delete(m.entered, at, at+1)
	}
}

func (m *model) uncross(t *testing.T) {
	t.Helper()
	fills, q, there := m.call(t).Uncross()
	if there {
		m.tell(priced(q.Price, q.Volume, q.Rule))
		m.session.Reference = q.Price
	}
	for _, x := range fills {
		m.tell(Traded(x.Buy, x.Sell, 1, q.Price, x.Qty))
		m.less(x.Buy, x.Qty)
		m.less(x.Sell, x.Qty)
	}
	for side := 1; side <= 2; side++ {
		for _, i := range slices.Clone(m.entered) {
			if i.side == side && i.Type == 2 {
				m.tell(Ended(i.ID, i.Visible, 3))
				m.less(i.ID, i.Visible)
			}
		}
	}
	m.keep(api.Book{Buys: m.rest(1), Sells: m.rest(2)})
	m.entered = nil
}

// rest is a side of the book that comes of the call.
func (m *model) rest(side int) []api.Resting {
	var l []api.Resting
	for _, i := range m.entered {
		if i.side != side {
			continue
		}
		r := i.Resting
		if r.Peak != 0 && r.Visible > r.Peak {
			r.Visible, r.Hidden = r.Peak, r.Visible-r.Peak
		}
		l = append(l, r)
	}
	slices.SortStableFunc(l, func(a, b api.Resting) int { return (a.Price - b.Price) * (2*side - 3) })
	return l
}

func (m *model) endDay() {
	for _, r := range slices.Concat(m.book.Buys, m.book.Sells) {
		if m.day[r.ID] {
			m.tell(Ended(r.ID, r.Visible+r.Hidden, 6))
		}
	}
	ends := func(r api.Resting) bool { return m.day[r.ID] }
	m.keep(api.Book{Buys: slices.DeleteFunc(m.book.Buys, ends), Sells: slices.DeleteFunc(m.book.Sells, ends)})
}

// ids is those of all orders that there are.
func (m *model) ids() []uint64 {
	var l []uint64
	for _, r := range slices.Concat(m.book.Buys, m.book.Sells) {
		l = append(l, r.ID)
	}
	for _, i := range m.entered {
		l = append(l, i.ID)
	}
	slices.Sort(l)
	return l
}

func (m *model) isDay(id uint64) bool { return m.day[id] && slices.Contains(m.ids(), id) }

// seen is what a floor must answer.
func (m *model) seen(t *testing.T) seen {
	t.Helper()
	s := seen{phase: m.phase, reference: m.session.Reference, book: m.book, orders: len(m.ids())}
	if m.phase == 1 || m.phase >= 3 {
		c := m.call(t)
		s.interests = [2][]api.Interest{c.Interests(1), c.Interests(2)}
		s.quoted.quote, s.quoted.there = c.Quote()
	}
	if m.phase == 2 {
		s.pending = m.waits.List
	}
	for _, id := range m.ids() {
		if m.day[id] {
			s.days = append(s.days, id)
		}
	}
	return s
}
