package feed_test

import (
	"maps"
	"slices"
	"testing"

	"bourse/api"
	"bourse/feed"
	. "bourse/sample"
)

// The tests hold publishers and subscribers against models that keep levels in maps, and messages in lists.

func publisher(t *testing.T, depth int) *feed.Publisher {
	t.Helper()
	p, why := feed.NewPublisher(depth)
	if p == nil || why != api.OK {
		t.Fatalf("NewPublisher(%d): %v", depth, why)
	}
	return p
}

func subscriber(t *testing.T, hold int) *feed.Subscriber {
	t.Helper()
	s, why := feed.NewSubscriber(hold)
	if s == nil || why != api.OK {
		t.Fatalf("NewSubscriber(%d): %v", hold, why)
	}
	return s
}

func at(price int, qty uint64, count int) api.Level {
	return api.Level{Price: price, Qty: qty, Count: count}
}

func level(seq uint64, side, price int, qty uint64, count int) api.Data {
	return api.Data{Seq: seq, Kind: api.DataLevel, Side: side, Price: price, Qty: qty, Count: count}
}

func trade(seq uint64, side, price int, qty uint64) api.Data {
	return api.Data{Seq: seq, Kind: api.DataTrade, Side: side, Price: price, Qty: qty}
}

func picture(seq uint64, buys, sells []api.Level) api.Picture {
	return api.Picture{Seq: seq, Buys: buys, Sells: sells}
}

// shows ends a test where a picture is another one.
func shows(t *testing.T, what string, got, want api.Picture) {
	t.Helper()
	Same(t, what+": Seq", got.Seq, want.Seq)
	SameList(t, what+": Buys", got.Buys, want.Buys)
	SameList(t, what+": Sells", got.Sells, want.Sells)
}

// publishes publishes, of which these messages must be told.
func publishes(t *testing.T, p *feed.Publisher, buys, sells []api.Level, events []api.Event, want ...api.Data) {
	t.Helper()
	told, why := p.Publish(buys, sells, events)
	Same(t, "Publish", why, api.OK)
	SameList(t, "what is told", told, want)
}

// takes has a subscriber take a message, to which it must answer so.
func takes(t *testing.T, s *feed.Subscriber, d api.Data, want api.Errno) {
	t.Helper()
	if why := s.Take(d); why != want {
		t.Fatalf("Take(%+v): got %v, wanted %v", d, why, want)
	}
}

// gap is what Missing answers.
type gap struct {
	from, to uint64
	ok       bool
}

func missing(s *feed.Subscriber) gap {
	from, to, ok := s.Missing()
	return gap{from, to, ok}
}

// last is what Last answers.
type last struct {
	data api.Data
	ok   bool
}

func lastOf(s *feed.Subscriber) last {
	d, ok := s.Last()
	return last{d, ok}
}

// canBeSide is told by the words of the chapter.
func canBeSide(side int, levels []api.Level) bool {
	seen := map[int]bool{}
	for _, l := range levels {
		if l.Price < 0 || l.Price > api.Ticks-1 || l.Qty == 0 || l.Count < 1 || seen[l.Price] {
			return false
		}
		seen[l.Price] = true
	}
	return slices.IsSortedFunc(levels, func(a, b api.Level) int {
		if side == api.Buy {
			return b.Price - a.Price
		}
		return a.Price - b.Price
	})
}

func canBe(d api.Data) bool {
	able := d.Seq > 0 && (d.Side == api.Buy || d.Side == api.Sell) && d.Price >= 0 && d.Price < api.Ticks
	if d.Kind == api.DataLevel {
		return able && (d.Qty == 0 && d.Count == 0 || d.Qty > 0 && d.Count > 0)
	}
	return able && d.Kind == api.DataTrade && d.Qty > 0 && d.Count == 0
}

// board is levels in maps by their prices: the one of a side is at its number.
type board [3]map[int]api.Level

func newBoard(p api.Picture) board {
	b := board{1: {}, 2: {}}
	for _, l := range p.Buys {
		b[api.Buy][l.Price] = l
	}
	for _, l := range p.Sells {
		b[api.Sell][l.Price] = l
	}
	return b
}

// do does a message, if it is one of a level.
func (b board) do(d api.Data) {
	if d.Kind != api.DataLevel {
		return
	}
	if d.Qty == 0 {
		delete(b[d.Side], d.Price)
		return
	}
	b[d.Side][d.Price] = at(d.Price, d.Qty, d.Count)
}

// picture is the levels, the better ones first.
func (b board) picture(seq uint64) api.Picture {
	p := api.Picture{Seq: seq}
	for _, price := range slices.Sorted(maps.Keys(b[api.Buy])) {
		p.Buys = append(p.Buys, b[api.Buy][price])
	}
	slices.Reverse(p.Buys)
	for _, price := range slices.Sorted(maps.Keys(b[api.Sell])) {
		p.Sells = append(p.Sells, b[api.Sell][price])
	}
	return p
}

// differ is the messages, numbered behind seq, of a publisher that showed one picture and shows another one now: price by price.
func differ(before, now api.Picture, seq uint64, trades []api.Data) []api.Data {
	told := slices.Clone(trades)
	old, new := newBoard(before), newBoard(now)
	for _, side := range []int{api.Buy, api.Sell} {
		prices := map[int]int{}
		maps.Copy(prices, numbersOf(old[side]))
		maps.Copy(prices, numbersOf(new[side]))
		sorted := slices.Sorted(maps.Keys(prices))
		if side == api.Buy {
			slices.Reverse(sorted)
		}
		for _, price := range sorted {
			if l := new[side][price]; l != old[side][price] {
				told = append(told, level(0, side, price, l.Qty, l.Count))
			}
		}
	}
	for i := range told {
		told[i].Seq = seq + uint64(i) + 1
	}
	return told
}

func numbersOf(levels map[int]api.Level) map[int]int {
	prices := map[int]int{}
	for price := range levels {
		prices[price] = 0
	}
	return prices
}

// top is the first of the levels, all if there are fewer.
func top(levels []api.Level, most int) []api.Level {
	if len(levels) > most {
		return levels[:most]
	}
	return levels
}

// tradesOf is the messages of the trades among events, without numbers.
func tradesOf(events []api.Event) []api.Data {
	var l []api.Data
	for _, e := range events {
		if e.Kind == api.EvTrade {
			l = append(l, trade(0, e.Side, e.Price, e.Qty))
		}
	}
	return l
}

// follower is what a subscriber must be, told by the words of the chapter.
type follower struct {
	levels   board
	seq      uint64
	hold     int
	held     []api.Data
	greatest uint64
	last     last
}

func newFollower(hold int) *follower { return &follower{levels: newBoard(api.Picture{}), hold: hold} }

func (f *follower) holds(seq uint64) int {
	return slices.IndexFunc(f.held, func(d api.Data) bool { return d.Seq == seq })
}

func (f *follower) take(d api.Data) api.Errno {
	if !canBe(d) {
		return api.ErrArg
	}
	if d.Seq <= f.seq || f.holds(d.Seq) >= 0 {
		return api.ErrStale
	}
	f.greatest = max(f.greatest, d.Seq)
	if d.Seq != f.seq+1 {
		if len(f.held) < f.hold {
			f.held = append(f.held, d)
		}
		return api.ErrGap
	}
	f.do(d)
	f.goOn()
	return api.OK
}

func (f *follower) do(d api.Data) {
	f.levels.do(d)
	if d.Kind == api.DataTrade {
		f.last = last{d, true}
	}
	f.seq = d.Seq
}

func (f *follower) goOn() {
	for i := f.holds(f.seq + 1); i >= 0; i = f.holds(f.seq + 1) {
		f.do(f.held[i])
		f.held = slices.Delete(f.held, i, i+1)
	}
}

func (f *follower) recover(p api.Picture) api.Errno {
	if !canBeSide(api.Buy, p.Buys) || !canBeSide(api.Sell, p.Sells) {
		return api.ErrArg
	}
	if p.Seq < f.seq {
		return api.ErrStale
	}
	f.levels, f.seq = newBoard(p), p.Seq
	f.held = slices.DeleteFunc(f.held, func(d api.Data) bool { return d.Seq <= p.Seq })
	f.goOn()
	return api.OK
}

func (f *follower) missing() gap {
	if f.seq >= f.greatest {
		return gap{}
	}
	if len(f.held) == 0 {
		return gap{f.seq + 1, f.greatest, true}
	}
	least := slices.MinFunc(f.held, func(a, b api.Data) int {
		if a.Seq < b.Seq {
			return -1
		}
		return 1
	})
	return gap{f.seq + 1, least.Seq - 1, true}
}

// alike holds all that can be asked of a subscriber against the model.
func (f *follower) alike(t *testing.T, s *feed.Subscriber) {
	t.Helper()
	shows(t, "Picture", s.Picture(), f.levels.picture(f.seq))
	Same(t, "Good", s.Good(), f.seq >= f.greatest)
	Same(t, "Missing", missing(s), f.missing())
	Same(t, "Last", lastOf(s), f.last)
}

// someLevels is levels of a side that can be, near one another.
func someLevels(mix *Mixer, side, most int) []api.Level {
	b := newBoard(api.Picture{})
	low := Pick(mix, 0, 5, api.Ticks-20)
	for range mix.Below(most + 1) {
		b.do(level(1, side, low+mix.Below(20), uint64(1+mix.Below(3)), 1+mix.Below(2)))
	}
	p := b.picture(0)
	return append(p.Buys, p.Sells...)
}

// wrongLevels is a side's levels that can't be: each has but one thing that is wrong.
func wrongLevels(side int) [][]api.Level {
	l := [][]api.Level{
		{at(-1, 5, 1)}, {at(api.Ticks, 5, 1)}, {at(-1<<63, 5, 1)}, {at(1<<62, 5, 1)},
		{at(9, 0, 1)}, {at(9, 5, 0)}, {at(9, 0, 0)}, {at(9, 5, -1)}, {at(9, 5, -1<<63)},
		{at(9, 5, 1), at(9, 5, 1)}, {at(9, 5, 1), at(9, 6, 2)},
		{at(8, 5, 1), at(9, 5, 1), at(8, 5, 1)}, {at(9, 5, 1), at(8, 5, 1), at(9, 5, 1)},
	}
	fair := []api.Level{at(9, 5, 1), at(8, 5, 1), at(7, 5, 1), at(6, 5, 1)}
	if side == api.Sell {
		slices.Reverse(fair)
	}
	l = append(l, slices.Clone(fair), slices.Clone(fair), slices.Clone(fair), slices.Clone(fair))
	n := len(l)
	slices.Reverse(l[n-1])
	l[n-2][2].Qty, l[n-3][3].Count = 0, 0
	l[n-4][1], l[n-4][2] = l[n-4][2], l[n-4][1]
	return l
}

// wrongData is messages that can't be: each has but one thing that is wrong.
func wrongData() []api.Data {
	var l []api.Data
	for _, fair := range []api.Data{level(1, api.Buy, 9, 5, 1), level(1, api.Sell, 9, 0, 0), trade(1, api.Buy, 9, 5)} {
		for _, spoil := range []func(d *api.Data){
			func(d *api.Data) { d.Seq = 0 },
			func(d *api.Data) { d.Kind = 0 },
			func(d *api.Data) { d.Kind = 3 },
			func(d *api.Data) { d.Kind = -1 },
			func(d *api.Data) { d.Kind = 257 },
			func(d *api.Data) { d.Side = 0 },
			func(d *api.Data) { d.Side = 3 },
			func(d *api.Data) { d.Side = -1 },
			func(d *api.Data) { d.Price = -1 },
			func(d *api.Data) { d.Price = api.Ticks },
			func(d *api.Data) { d.Price = 1 << 62 },
			func(d *api.Data) { d.Count = -1 },
		} {
			d := fair
			spoil(&d)
			l = append(l, d)
		}
	}
	return append(l, api.Data{}, level(1, api.Buy, 9, 5, 0), level(1, api.Buy, 9, 0, 1), trade(1, api.Buy, 9, 0), api.Data{Seq: 1, Kind: api.DataTrade, Side: api.Sell, Price: 9, Qty: 5, Count: 1})
}

// fairData is messages about the ends of what can be, in their order from seq on.
func fairData(seq uint64) []api.Data {
	return []api.Data{
		level(seq, api.Buy, 0, 1, 1), level(seq+1, api.Sell, api.Ticks-1, 1<<64-1, 1<<63-1), level(seq+2, api.Buy, 0, 0, 0),
		trade(seq+3, api.Sell, 0, 1), trade(seq+4, api.Buy, api.Ticks-1, 1<<64-1), level(seq+5, api.Sell, api.Ticks-1, 0, 0),
	}
}
