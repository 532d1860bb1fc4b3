package checker_test

import (
	"slices"
	"testing"

	"bourse/api"
	"bourse/checker"
	"bourse/rules"
	. "bourse/sample"
)

// The tests hold every answer against a model that looks for a command of which a book would tell just that: it keeps such a book, and what is still to come of its last command.
type model struct {
	was, is  *rules.Book
	told     []api.Event
	toCome   []api.Event
	replaced uint64
}

func modelOf(c api.Config) *model {
	return &model{was: bookOf(api.Book{Config: c}), is: bookOf(api.Book{Config: c})}
}

// bookOf is a list book that goes on from another one.
func bookOf(x api.Book) *rules.Book {
	b, _ := rules.New(x.Config)
	if b == nil || b.Load(x) != api.OK {
		panic("a book that can't be")
	}
	return b
}

func (m *model) seq() uint64 { return m.was.Book().Seq + uint64(len(m.told)) }

func (m *model) open() bool { return len(m.toCome) > 0 || m.replaced != 0 }

// book is the one ahead of the command, with what was told of it done to it.
func (m *model) book() api.Book {
	if !m.open() {
		return m.is.Book()
	}
	x := m.was.Book()
	for _, e := range m.told {
		x.Seq = e.Seq
		if e.Kind == api.EvAck {
			x.High = e.ID
		}
		x.Buys, x.Sells = after(x.Buys, api.Buy, e), after(x.Sells, api.Sell, e)
	}
	return x
}

// after is a side behind an event.
func after(l []api.Resting, side int, e api.Event) []api.Resting {
	id := e.ID
	if e.Kind == api.EvTrade {
		id = e.Other
	}
	at := slices.IndexFunc(l, func(r api.Resting) bool { return r.ID == id })
	if at < 0 || e.Kind == api.EvAck || e.Kind == api.EvReject {
		return l
	}
	r := l[at]
	switch e.Kind {
	case api.EvCancel:
		return slices.Delete(l, at, at+1)
	case api.EvTrade:
		r.Visible -= e.Qty
		if r.Visible+r.Hidden == 0 {
			return slices.Delete(l, at, at+1)
		}
		l[at] = r
		return l
	}
	r.Hidden -= e.Qty
	r.Visible = e.Qty
	l = append(slices.Delete(l, at, at+1), r)
	slices.SortStableFunc(l, func(a, b api.Resting) int {
		if side == api.Buy {
			return b.Price - a.Price
		}
		return a.Price - b.Price
	})
	return l
}

// holds takes an event if a book tells it first of a command.
func (m *model) holds(c api.Command, e api.Event) bool {
	played := bookOf(m.is.Book())
	told := played.Do(c)
	if told[0] != e {
		return false
	}
	m.was, m.is = m.is, played
	m.told, m.toCome = told[:1], told[1:]
	return true
}

// add is what Add must answer.
func (m *model) add(e api.Event) api.Errno {
	switch {
	case e.Seq != m.seq()+1:
		return 190
	case m.replaced != 0:
		return m.replace(e)
	case len(m.toCome) > 0:
		return m.follow(e)
	case e.Kind == 1:
		if m.holds(newOf(e), e) {
			return 0
		}
		return 191
	case e.Kind == 2:
		return m.reject(e)
	case e.Kind == 4:
		return m.cancel(e)
	}
	return 191
}

func newOf(e api.Event) api.Command {
	return api.Command{Kind: api.New, ID: e.ID, Member: e.Member, Side: e.Side, Type: e.Type, Price: e.Price, Qty: e.Qty, Peak: e.Peak}
}

// replace looks whether the book tells that event behind the order's end.
func (m *model) replace(e api.Event) api.Errno {
	played := bookOf(m.is.Book())
	told := played.Do(api.Command{Kind: api.Replace, Target: m.replaced, ID: e.ID, Price: e.Price, Qty: e.Qty, Peak: e.Peak})
	if len(told) < 2 || told[1] != e {
		return 191
	}
	m.is, m.told, m.toCome, m.replaced = played, told[:2], told[2:], 0
	return 0
}

func (m *model) follow(e api.Event) api.Errno {
	must := m.toCome[0]
	for _, x := range []struct {
		wrong bool
		why   api.Errno
	}{
		{e.Kind != must.Kind, 191},
		{e.ID != must.ID, 192},
		{e.Other != must.Other, 192},
		{e.Price != must.Price, 194},
		{e.Qty != must.Qty, 193},
		{e.Reason != must.Reason, 195},
		{e != must, 191},
	} {
		if x.wrong {
			return x.why
		}
	}
	m.told, m.toCome = append(m.told, e), m.toCome[1:]
	return 0
}

func (m *model) cancel(e api.Event) api.Errno {
	if e.Reason != 1 && e.Reason != 2 {
		return 195
	}
	r := Find(m.is, e.ID)
	if !r.There {
		return 192
	}
	if e.Qty != r.Order.Visible+r.Order.Hidden {
		return 193
	}
	if e.Reason == 1 {
		if !m.holds(Cancel(e.ID), e) {
			return 191
		}
		return 0
	}
	if e != (api.Event{Seq: e.Seq, Kind: 4, ID: e.ID, Qty: e.Qty, Reason: 2}) {
		return 191
	}
	m.was, m.told, m.toCome, m.replaced = m.is, []api.Event{e}, nil, e.ID
	return 0
}

// reject looks for a command that the book refuses so.
func (m *model) reject(e api.Event) api.Errno {
	if e.Other != 0 || e.Member != 0 || e.Side != 0 || e.Type != 0 || e.Price != 0 || e.Qty != 0 || e.Peak != 0 || e.Reason != 0 {
		return 191
	}
	for _, c := range refused(e) {
		if m.holds(c, e) {
			return 0
		}
	}
	return 195
}

// refused is commands with the numbers of an EvReject, among which is one of each kind that a book may refuse.
func refused(e api.Event) []api.Command {
	good := api.Command{Kind: api.New, ID: e.ID, Target: e.Target, Side: api.Buy, Type: api.Limit, Price: 1, Qty: 1}
	var l []api.Command
	for _, kind := range []int{0, api.New, api.Cancel, api.Replace} {
		for _, turn := range []func(c *api.Command){
			func(c *api.Command) {},
			func(c *api.Command) { c.Side = 0 },
			func(c *api.Command) { c.Type = 0 },
			func(c *api.Command) { c.Price = -1 },
			func(c *api.Command) { c.Qty = 0 },
			func(c *api.Command) { c.Peak = 2 },
			func(c *api.Command) { c.Type, c.Price = api.PostOnly, api.Ticks-1 },
			func(c *api.Command) { c.Type, c.Side, c.Price = api.PostOnly, api.Sell, 0 },
		} {
			c := good
			c.Kind = kind
			turn(&c)
			l = append(l, c)
		}
	}
	return l
}

func made(t *testing.T, c api.Config) *checker.Checker {
	t.Helper()
	x, why := checker.New(c)
	if x == nil || why != api.OK {
		t.Fatalf("New(%+v): %v", c, why)
	}
	return x
}

// adds has a checker take events, numbered from its Seq on.
func adds(t *testing.T, x *checker.Checker, l ...api.Event) {
	t.Helper()
	for _, e := range Numbered(x.Book().Seq, l...) {
		if why := x.Add(e); why != api.OK {
			t.Fatalf("Add(%+v): got %v", e, why)
		}
	}
}

// refuses has a checker refuse an event that has the next number, and change nothing.
func refuses(t *testing.T, x *checker.Checker, e api.Event, want api.Errno) {
	t.Helper()
	book, open := x.Book(), x.Open()
	e.Seq = book.Seq + 1
	if why := x.Add(e); why != want {
		t.Fatalf("Add(%+v): got %v, wanted %v", e, why, want)
	}
	Same(t, "Open", x.Open(), open)
	tells(t, x, book)
}

// tells ends a test where the book that the log tells is another one.
func tells(t *testing.T, x *checker.Checker, want api.Book) {
	t.Helper()
	if got := x.Book(); !SameBook(got, want) {
		t.Fatalf("Book: got %+v, wanted %+v", got, want)
	}
}

// checks holds what Check answers of a log.
func checks(t *testing.T, c api.Config, l []api.Event, count int, want api.Errno) {
	t.Helper()
	n, why := checker.Check(c, l)
	if n != count || why != want {
		t.Fatalf("Check: got %d, %v, wanted %d, %v", n, why, count, want)
	}
}

// logOf is what a list book tells of likely and wild commands.
func logOf(c api.Config, mix *Mixer, steps, prices int) []api.Event {
	var log []api.Event
	b := bookOf(api.Book{Config: c})
	for range steps {
		do := Wild(mix, b.Book().High, prices)
		do.ID = min(do.ID, b.Book().High+9)
		log = append(log, b.Do(do)...)
	}
	return log
}

// rest is an order in a book.
func rest(c api.Command, visible, hidden uint64) api.Resting {
	return api.Resting{ID: c.ID, Member: c.Member, Type: c.Type, Price: c.Price, Visible: visible, Hidden: hidden, Peak: c.Peak}
}
