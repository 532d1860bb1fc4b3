package bands_test

import (
	"math"
	"testing"

	"bourse/api"
	"bourse/bands"
	"bourse/rules"
	. "bourse/sample"
	"bourse/snapshot"
)

// The tests hold every answer against a model that keeps no engine: each command is done in a list book that is opened for it alone, and what comes of it is thrown away where a band is left.
type model struct {
	book api.Book
	band api.Band
	told []api.Event
}

func (m *model) tell(e api.Event) {
	m.band.Seq++
	e.Seq = m.band.Seq
	m.told = append(m.told, e)
}

// all is what was told since it was asked for last.
func (m *model) all() []api.Event {
	l := m.told
	m.told = nil
	return l
}

// apart is by how much two prices differ.
func apart(a, b int) int { return max(a, b) - min(a, b) }

// judged is what a command is refused for by the prices that it would come to, the last ones those of trades.
func (m *model) judged(prices []int, trades int) (api.Errno, int) {
	for _, p := range prices {
		if apart(p, m.band.Reference) > m.band.Static {
			return 151, 0
		}
	}
	from := m.band.Reference
	if m.band.HasLast {
		from = m.band.Last
	}
	for _, p := range prices[len(prices)-trades:] {
		if apart(p, from) > m.band.Dynamic {
			return 152, p
		}
	}
	return 0, 0
}

// played is what the list book tells of a command, and what it keeps then.
func (m *model) played(t *testing.T, c api.Command) ([]api.Event, api.Book) {
	t.Helper()
	b, why := rules.New(m.book.Config)
	Same(t, "New", why, api.OK)
	Same(t, "Load", b.Load(m.book), api.OK)
	return b.Do(c), b.Book()
}

func (m *model) do(t *testing.T, c api.Command) []api.Event {
	t.Helper()
	if m.band.Halted && (c.Kind == 1 || c.Kind == 3) {
		m.tell(Rejected(c, 150))
		return m.all()
	}
	events, book := m.played(t, c)
	var prices []int
	if c.Kind == 3 || c.Kind == 1 && c.Type != 2 {
		prices = append(prices, c.Price)
	}
	trades := 0
	for _, e := range events {
		if e.Kind == 3 {
			prices = append(prices, e.Price)
			trades++
		}
	}
	why, at := m.judged(prices, trades)
	switch {
	case events[0].Kind == 2 || why == 0:
		m.book = book
		for _, e := range events {
			m.tell(e)
		}
		if trades > 0 {
			m.band.HasLast, m.band.Last = true, prices[len(prices)-1]
		}
	default:
		m.tell(Rejected(c, why))
		if why == 152 {
			m.band.Halted = true
			m.tell(api.Event{Kind: 20, Price: at})
		}
	}
	return m.all()
}

func (m *model) halt() []api.Event {
	if !m.band.Halted {
		m.band.Halted = true
		m.tell(api.Event{Kind: 20})
	}
	return m.all()
}

func (m *model) resume(reference int) ([]api.Event, api.Errno) {
	if reference < 0 || reference > 1<<18-1 {
		return nil, 1
	}
	m.band = api.Band{Reference: reference, Static: m.band.Static, Dynamic: m.band.Dynamic, Seq: m.band.Seq}
	m.tell(api.Event{Kind: 21, Price: reference})
	return m.all(), 0
}

// each runs a test over every engine.
func each(t *testing.T, test func(t *testing.T, kind int)) {
	t.Run("tree", func(t *testing.T) { test(t, api.Tree) })
	t.Run("ladder", func(t *testing.T) { test(t, api.Ladder) })
	t.Run("list", func(t *testing.T) { test(t, api.List) })
}

func engineOf(t *testing.T, kind int, c api.Config) api.Engine {
	t.Helper()
	e, why := snapshot.Make(kind, c)
	Same(t, "Make", why, api.OK)
	return e
}

func over(t *testing.T, e api.Engine, reference, static, dynamic int) *bands.Guard {
	t.Helper()
	g, why := bands.New(e, reference, static, dynamic)
	if g == nil || why != api.OK {
		t.Fatalf("New(.., %d, %d, %d): %v", reference, static, dynamic, why)
	}
	return g
}

// guardOf is a Guard as the chapter's examples have it (Reference 100, Static 10, Dynamic 3), over an engine of the Capacity 9; it takes each of these.
func guardOf(t *testing.T, kind int, commands ...api.Command) *bands.Guard {
	t.Helper()
	g := over(t, engineOf(t, kind, api.Config{Capacity: 9}), 100, 10, 3)
	for _, c := range commands {
		for _, e := range g.Do(c) {
			if e.Kind == api.EvReject {
				t.Fatalf("%+v is refused: %v", c, e.Code)
			}
		}
	}
	return g
}

// restored is a Guard over an engine of a kind that goes on from there.
func restored(t *testing.T, kind int, s api.Band, x api.Book) *bands.Guard {
	t.Helper()
	g := over(t, engineOf(t, kind, api.Config{Capacity: 1}), 0, 0, 0)
	Same(t, "Restore", g.Restore(s, x), api.OK)
	Same(t, "State", g.State(), s)
	Keeps(t, g, x)
	return g
}

// tells holds what a Guard just told against these events, numbered up to its Seq.
func tells(t *testing.T, g *bands.Guard, got []api.Event, want ...api.Event) {
	t.Helper()
	SameList(t, "what is told", got, Numbered(g.State().Seq-uint64(len(want)), want...))
}

// does does a command of which these must be told, all of them the engine's.
func does(t *testing.T, g *bands.Guard, c api.Command, want ...api.Event) {
	t.Helper()
	seq := g.Book().Seq
	tells(t, g, g.Do(c), want...)
	Same(t, "the engine's Seq", g.Book().Seq, seq+uint64(len(want)))
}

// refuses does a command that must not come to the book at all, for a reason that is not the engine's.
func refuses(t *testing.T, g *bands.Guard, c api.Command, why api.Errno, more ...api.Event) {
	t.Helper()
	x, s := g.Book(), g.State()
	tells(t, g, g.Do(c), append([]api.Event{Rejected(c, why)}, more...)...)
	Keeps(t, g, x)
	s.Seq += 1 + uint64(len(more))
	s.Halted = s.Halted || len(more) > 0
	Same(t, "State", g.State(), s)
}

// jumps does a command that must be refused for a trade at a price, with which it is halted.
func jumps(t *testing.T, g *bands.Guard, c api.Command, price int) {
	t.Helper()
	refuses(t, g, c, api.ErrJump, api.Event{Kind: api.EvHalt, Price: price})
	Same(t, "Halted", g.State().Halted, true)
}

func resumes(t *testing.T, g *bands.Guard, reference int) {
	t.Helper()
	s := g.State()
	got, why := g.Resume(reference)
	Same(t, "Resume", why, api.OK)
	tells(t, g, got, api.Event{Kind: api.EvResume, Price: reference})
	Same(t, "State", g.State(), api.Band{Reference: reference, Static: s.Static, Dynamic: s.Dynamic, Seq: s.Seq + 1})
}

// market is a New of a Market.
func market(id uint64, side int, qty uint64) api.Command {
	return Order(id, side, api.Market, 0, qty)
}

// fairBand is a state with which nothing is wrong.
func fairBand() api.Band {
	return api.Band{Reference: 11, Static: 5, Dynamic: 2, Last: 13, HasLast: true, Seq: 50}
}

// wrongPrices is what no price can be, and wrongWidths what no width can be.
func wrongPrices() []int {
	return []int{math.MinInt, math.MinInt32, -api.Ticks, -1, api.Ticks, api.Ticks + 1, math.MaxInt32, math.MaxInt}
}

func wrongWidths() []int {
	return []int{math.MinInt, math.MinInt32, -api.Ticks, -1, api.Ticks + 1, math.MaxInt32, math.MaxInt}
}
