package stops_test

import (
	"maps"
	"math"
	"slices"
	"testing"

	"bourse/api"
	"bourse/rules"
	. "bourse/sample"
	"bourse/snapshot"
	"bourse/stops"
)

// The tests hold every answer against a model that keeps no engine: for each command one is opened from a book, and what waits lies in a map.
type model struct {
	book  api.Book
	most  int
	waits map[uint64]api.Stop
	high  uint64
	seq   uint64
	last  []int // all prices of trades
	told  []api.Event
}

func modelOf(s api.Stops, x api.Book) *model {
	m := &model{book: x, most: s.Most, high: s.High, seq: s.Seq, waits: map[uint64]api.Stop{}}
	for _, w := range s.List {
		m.waits[w.Number] = w
	}
	if s.HasLast {
		m.last = []int{s.Last}
	}
	return m
}

func (m *model) tell(e api.Event) {
	m.seq++
	e.Seq = m.seq
	m.told = append(m.told, e)
}

// engine does a command in a book that is opened for it alone.
func (m *model) engine(t *testing.T, c api.Command) {
	t.Helper()
	b, why := rules.New(m.book.Config)
	Same(t, "New", why, api.OK)
	Same(t, "Load", b.Load(m.book), api.OK)
	for _, e := range b.Do(c) {
		if e.Kind == 3 {
			m.last = append(m.last, e.Price)
		}
		m.tell(e)
	}
	m.book = b.Book()
}

func (m *model) met(s api.Stop) bool {
	if len(m.last) == 0 {
		return false
	}
	last := m.last[len(m.last)-1]
	return s.Side == 1 && last >= s.Trigger || s.Side == 2 && last <= s.Trigger
}

// goes lets the lowest number go that is met, until none is.
func (m *model) goes(t *testing.T) []api.Event {
	t.Helper()
	for {
		lowest := uint64(0)
		for n, s := range m.waits {
			if m.met(s) && (lowest == 0 || n < lowest) {
				lowest = n
			}
		}
		if lowest == 0 {
			break
		}
		s := m.waits[lowest]
		delete(m.waits, lowest)
		id := m.book.High + 1
		m.tell(api.Event{Kind: 7, ID: lowest, Other: id})
		m.engine(t, api.Command{Kind: 1, ID: id, Member: s.Member, Side: s.Side, Type: s.Type, Price: s.Price, Qty: s.Qty, Peak: s.Peak})
	}
	l := m.told
	m.told = nil
	return l
}

func (m *model) do(t *testing.T, c api.Command) []api.Event {
	t.Helper()
	m.engine(t, c)
	return m.goes(t)
}

// refused is what P13.4 refuses a stop order for.
func (m *model) refused(s api.Stop) api.Errno {
	why := rules.Check(api.Command{Kind: 1, ID: 1, Member: s.Member, Side: s.Side, Type: s.Type, Price: s.Price, Qty: s.Qty, Peak: s.Peak})
	if why != 0 {
		return why
	}
	if s.Trigger < 0 || s.Trigger > 1<<18-1 {
		return 131
	}
	if s.Number <= m.high {
		return 132
	}
	if len(m.waits) == m.most {
		return 133
	}
	return 0
}

func (m *model) place(t *testing.T, s api.Stop) []api.Event {
	t.Helper()
	if why := m.refused(s); why != 0 {
		m.tell(api.Event{Kind: 2, ID: s.Number, Code: why})
		return m.goes(t)
	}
	m.high = s.Number
	m.waits[s.Number] = s
	m.tell(Stopped(s, 0))
	return m.goes(t)
}

func (m *model) withdraw(t *testing.T, number uint64) []api.Event {
	t.Helper()
	if s, there := m.waits[number]; there {
		delete(m.waits, number)
		m.tell(Stopped(s, 1))
	} else {
		m.tell(api.Event{Kind: 2, Target: number, Code: 130})
	}
	return m.goes(t)
}

func (m *model) state() api.Stops {
	s := api.Stops{Most: m.most, High: m.high, Seq: m.seq}
	for _, n := range slices.Sorted(maps.Keys(m.waits)) {
		s.List = append(s.List, m.waits[n])
	}
	if len(m.last) > 0 {
		s.HasLast, s.Last = true, m.last[len(m.last)-1]
	}
	return s
}

// each runs a test over every engine.
func each(t *testing.T, test func(t *testing.T, kind int)) {
	t.Run("tree", func(t *testing.T) { test(t, api.Tree) })
	t.Run("ladder", func(t *testing.T) { test(t, api.Ladder) })
	t.Run("list", func(t *testing.T) { test(t, api.List) })
}

func engineOf(t *testing.T, kind int, c api.Config) api.Engine {
	t.Helper()
	e, why := snapshot.Make(kind, c)
	Same(t, "Make", why, api.OK)
	return e
}

func over(t *testing.T, e api.Engine, most int) *stops.Book {
	t.Helper()
	b, why := stops.New(e, most)
	if b == nil || why != api.OK {
		t.Fatalf("New(.., %d): %v", most, why)
	}
	return b
}

// bookOf is a Book over an engine of the Capacity 9, in which four may wait, and which has done these.
func bookOf(t *testing.T, kind int, commands ...api.Command) *stops.Book {
	t.Helper()
	b := over(t, engineOf(t, kind, api.Config{Capacity: 9}), 4)
	for _, c := range commands {
		b.Do(c)
	}
	return b
}

// places lets a Book take stop orders, none of which is met.
func places(t *testing.T, b *stops.Book, l ...api.Stop) {
	t.Helper()
	for _, s := range l {
		tells(t, b, b.Place(s), Stopped(s, 0))
	}
}

// tells holds what a Book just told against these events, numbered up to its Seq.
func tells(t *testing.T, b *stops.Book, got []api.Event, want ...api.Event) {
	t.Helper()
	SameList(t, "what is told", got, Numbered(b.State().Seq-uint64(len(want)), want...))
}

// keeps ends a test where a Book does not keep just that.
func keeps(t *testing.T, b *stops.Book, want api.Stops) {
	t.Helper()
	got := b.State()
	SameList(t, "State: List", got.List, want.List)
	SameList(t, "Pending", b.Pending(), want.List)
	Same(t, "State: Most", got.Most, want.Most)
	Same(t, "State: High", got.High, want.High)
	Same(t, "State: Seq", got.Seq, want.Seq)
	Same(t, "State: HasLast", got.HasLast, want.HasLast)
	Same(t, "State: Last", got.Last, want.Last)
	last, there := b.Last()
	Same(t, "whether there is a last price", there, want.HasLast)
	Same(t, "Last", last, want.Last)
}

// fairState is one with which nothing is wrong.
func fairState() api.Stops {
	return api.Stops{
		Most: 4,
		List: []api.Stop{
			Stop(2, 11, By(Order(0, api.Buy, api.Market, 0, 3), 7)),
			Stop(3, 9, Peaked(Sell(0, 8, 6), 2)),
			Stop(8, 12, Order(0, api.Buy, api.PostOnly, 12, 1)),
		},
		High: 9, Seq: 50, Last: 10, HasLast: true,
	}
}

// restored is a Book over an engine of a kind that goes on from there.
func restored(t *testing.T, kind int, s api.Stops, x api.Book) *stops.Book {
	t.Helper()
	b := over(t, engineOf(t, kind, api.Config{Capacity: 1}), 0)
	Same(t, "Restore", b.Restore(s, x), api.OK)
	keeps(t, b, s)
	Keeps(t, b, x)
	return b
}

// number is one that may well be that of a stop order that waits.
func number(x *Mixer, s api.Stops) uint64 {
	if len(s.List) > 0 && x.Below(4) > 0 {
		return s.List[x.Below(len(s.List))].Number
	}
	return Pick(x, 0, 1, s.High, s.High+1, math.MaxUint64)
}
