package phases_test

import (
	"math"
	"slices"
	"testing"

	"bourse/api"
	"bourse/phases"
	. "bourse/sample"
)

// each runs a test in every engine.
func each(t *testing.T, test func(t *testing.T, kind int)) {
	t.Run("tree", func(t *testing.T) { test(t, api.Tree) })
	t.Run("ladder", func(t *testing.T) { test(t, api.Ladder) })
	t.Run("list", func(t *testing.T) { test(t, api.List) })
}

// usual is the session of the chapter's examples; two stop orders may wait.
func usual(kind int) api.Session {
	return api.Session{Config: api.Config{Capacity: 9}, Engine: kind, Reference: 100, Static: 10, Dynamic: 3, Stops: 2}
}

func made(t *testing.T, s api.Session) *phases.Floor {
	t.Helper()
	f, why := phases.New(s)
	if f == nil || why != api.OK {
		t.Fatalf("New(%+v): %v", s, why)
	}
	return f
}

// floorOf is a floor of the examples' session in a phase, to which it came without an order; there it took these.
func floorOf(t *testing.T, kind, phase int, commands ...api.Command) *phases.Floor {
	t.Helper()
	f := made(t, usual(kind))
	comes(t, f, phase)
	takes(t, f, commands...)
	return f
}

// way is the phases through which a day comes to one.
func way(phase int) []int {
	switch phase {
	case api.PreOpen:
		return []int{api.PreOpen}
	case api.Opened:
		return []int{api.PreOpen, api.Opened}
	case api.Halted, api.PreClose:
		return []int{api.PreOpen, api.Opened, phase}
	}
	return nil
}

// comes turns a floor that is Closed to a phase.
func comes(t *testing.T, f *phases.Floor, phase int) {
	t.Helper()
	for _, next := range way(phase) {
		_, why := f.Turn(next)
		Same(t, "Turn", why, api.OK)
	}
	Same(t, "Phase", f.Phase(), phase)
}

// takes lets a floor do commands that it must not refuse, none of them for the day.
func takes(t *testing.T, f *phases.Floor, commands ...api.Command) {
	t.Helper()
	for _, c := range commands {
		taken(t, f.Do(api.Order{Command: c}))
	}
}

// takesForTheDay is the same for orders that are for the day.
func takesForTheDay(t *testing.T, f *phases.Floor, commands ...api.Command) {
	t.Helper()
	for _, c := range commands {
		taken(t, f.Do(api.Order{Command: c, Day: true}))
	}
}

func taken(t *testing.T, told []api.Event) {
	t.Helper()
	for _, e := range told {
		if e.Kind == api.EvReject {
			t.Fatalf("refused: %+v", e)
		}
	}
}

// tells holds what a floor just told against these events, numbered up to its Seq.
func tells(t *testing.T, f *phases.Floor, got []api.Event, want ...api.Event) {
	t.Helper()
	SameList(t, "what is told", got, Numbered(f.Seq()-uint64(len(want)), want...))
}

// does does a command of which these must be told.
func does(t *testing.T, f *phases.Floor, c api.Command, want ...api.Event) {
	t.Helper()
	tells(t, f, f.Do(api.Order{Command: c}), want...)
}

// turns turns a floor, of which these must be told, and that the phase begins at a reference.
func turns(t *testing.T, f *phases.Floor, phase, reference int, want ...api.Event) {
	t.Helper()
	got, why := f.Turn(phase)
	Same(t, "Turn", why, api.OK)
	tells(t, f, got, append(want, begins(phase, reference))...)
	Same(t, "Phase", f.Phase(), phase)
	Same(t, "Reference", f.Reference(), reference)
}

// begins tells that a phase does.
func begins(phase, reference int) api.Event {
	return api.Event{Kind: api.EvPhase, Reason: phase, Price: reference}
}

// priced tells of an auction's price.
func priced(price int, volume uint64, rule int) api.Event {
	return api.Event{Kind: api.EvPrice, Price: price, Qty: volume, Reason: rule}
}

// halted tells that a trade at a price would have jumped.
func halted(price int) api.Event { return api.Event{Kind: api.EvHalt, Price: price} }

// market is a New of a Market.
func market(id uint64, side int, qty uint64) api.Command {
	return Order(id, side, api.Market, 0, qty)
}

// postOnly is a New of a PostOnly.
func postOnly(id uint64, side, price int, qty uint64) api.Command {
	return Order(id, side, api.PostOnly, price, qty)
}

// quoted is what Quote answers.
type quoted struct {
	quote api.Quote
	there bool
}

func quote(f *phases.Floor) quoted {
	q, there := f.Quote()
	return quoted{q, there}
}

// seen is all that can be asked of a floor.
type seen struct {
	phase, reference int
	book             api.Book
	interests        [2][]api.Interest
	quoted           quoted
	pending          []api.Stop
	orders           int
	days             []uint64
}

// asked asks a floor for all; whether they are for the day, of all its orders, of the last ones that there were, and of some that can't be.
func asked(f *phases.Floor) seen {
	s := seen{phase: f.Phase(), reference: f.Reference(), book: f.Book(), quoted: quote(f), pending: f.Pending(), orders: f.Orders()}
	s.interests = [2][]api.Interest{f.Interests(api.Buy), f.Interests(api.Sell)}
	ids := []uint64{f.High(), f.High() + 1, 1 << 62, math.MaxUint64}
	for n := range min(f.High(), 100) {
		ids = append(ids, n, f.High()-n)
	}
	for id := range lefts(f) {
		ids = append(ids, id)
	}
	slices.Sort(ids)
	s.days = slices.DeleteFunc(slices.Compact(ids), func(id uint64) bool { return !f.IsDay(id) })
	return s
}

// looked holds all that can be asked of a floor against what must be answered.
func looked(t *testing.T, f *phases.Floor, want seen) {
	t.Helper()
	got := asked(f)
	Same(t, "Phase", got.phase, want.phase)
	Same(t, "Reference", got.reference, want.reference)
	if !SameBook(got.book, want.book) {
		t.Fatalf("Book: got %+v, wanted %+v", got.book, want.book)
	}
	Same(t, "High", f.High(), want.book.High)
	Same(t, "Seq", f.Seq(), want.book.Seq)
	SameList(t, "Interests(Buy)", got.interests[0], want.interests[0])
	SameList(t, "Interests(Sell)", got.interests[1], want.interests[1])
	for _, side := range []int{math.MinInt, -1, 0, 3, math.MaxInt} {
		SameList(t, "Interests of neither side", f.Interests(side), nil)
	}
	Same(t, "Quote", got.quoted, want.quoted)
	SameList(t, "Pending", got.pending, want.pending)
	Same(t, "Orders", got.orders, want.orders)
	SameList(t, "IsDay", got.days, want.days)
}

// refuses does a command that must be refused, and change nothing but Seq.
func refuses(t *testing.T, f *phases.Floor, c api.Command, why api.Errno) {
	t.Helper()
	want := asked(f)
	does(t, f, c, Rejected(c, why))
	want.book.Seq++
	looked(t, f, want)
}

// lefts is what is left of each order, by their IDs.
func lefts(f *phases.Floor) map[uint64]uint64 {
	l := map[uint64]uint64{}
	x := f.Book()
	for _, r := range slices.Concat(x.Buys, x.Sells) {
		l[r.ID] = r.Visible + r.Hidden
	}
	for _, i := range slices.Concat(f.Interests(api.Buy), f.Interests(api.Sell)) {
		l[i.ID] = i.Qty
	}
	return l
}
