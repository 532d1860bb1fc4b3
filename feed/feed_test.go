package feed_test

import (
	"math"
	"slices"
	"testing"

	"bourse/api"
	"bourse/feed"
	. "bourse/sample"
)

func TestP18_1NewPublisher(t *testing.T) {
	for _, depth := range []int{-1, 0, api.MaxDepth + 1, math.MaxInt, math.MinInt} {
		if p, why := feed.NewPublisher(depth); p != nil || why != api.ErrArg {
			t.Fatalf("NewPublisher(%d): %v, %v", depth, p, why)
		}
	}
	for _, depth := range []int{1, 2, api.MaxDepth} {
		shows(t, "of a new one", publisher(t, depth).Picture(), api.Picture{})
	}
}

func TestP18_1Depth(t *testing.T) {
	var sells []api.Level
	for i := range api.MaxDepth + 9 {
		sells = append(sells, at(i, 1, 1))
	}
	for depth := 1; depth <= api.MaxDepth; depth++ {
		p := publisher(t, depth)
		told, why := p.Publish(nil, sells, nil)
		Same(t, "Publish", why, api.OK)
		Same(t, "messages", len(told), depth)
		shows(t, "of the depth", p.Picture(), picture(uint64(depth), nil, sells[:depth]))
	}
}

func TestP18_2Example(t *testing.T) {
	p := publisher(t, 2)
	sells := []api.Level{at(10, 5, 1), at(11, 2, 1), at(12, 9, 2)}
	publishes(t, p, nil, sells, nil, level(1, api.Sell, 10, 5, 1), level(2, api.Sell, 11, 2, 1))
	shows(t, "behind the first", p.Picture(), picture(2, nil, sells[:2]))
	sells = []api.Level{at(9, 1, 1), at(10, 5, 1), at(11, 2, 1)}
	publishes(t, p, nil, sells, nil, level(3, api.Sell, 9, 1, 1), level(4, api.Sell, 11, 0, 0))
	shows(t, "behind the second", p.Picture(), picture(4, nil, sells[:2]))
}

func TestP18_2Changes(t *testing.T) {
	p := publisher(t, 3)
	buys := []api.Level{at(9, 5, 1), at(7, 2, 1), at(5, 1, 1)}
	sells := []api.Level{at(11, 5, 1), at(13, 2, 1)}
	publishes(t, p, buys, sells, nil,
		level(1, api.Buy, 9, 5, 1), level(2, api.Buy, 7, 2, 1), level(3, api.Buy, 5, 1, 1),
		level(4, api.Sell, 11, 5, 1), level(5, api.Sell, 13, 2, 1))
	publishes(t, p, buys, sells, nil)
	shows(t, "where nothing changed", p.Picture(), picture(5, buys, sells))
	publishes(t, p, []api.Level{at(9, 5, 2), at(8, 1, 1), at(7, 2, 1)}, []api.Level{at(11, 4, 1), at(12, 1, 1), at(14, 1, 1)}, nil,
		level(6, api.Buy, 9, 5, 2), level(7, api.Buy, 8, 1, 1), level(8, api.Buy, 5, 0, 0),
		level(9, api.Sell, 11, 4, 1), level(10, api.Sell, 12, 1, 1), level(11, api.Sell, 13, 0, 0), level(12, api.Sell, 14, 1, 1))
	publishes(t, p, nil, []api.Level{at(12, 1, 1)}, nil,
		level(13, api.Buy, 9, 0, 0), level(14, api.Buy, 8, 0, 0), level(15, api.Buy, 7, 0, 0),
		level(16, api.Sell, 11, 0, 0), level(17, api.Sell, 14, 0, 0))
	shows(t, "at the end", p.Picture(), picture(17, nil, []api.Level{at(12, 1, 1)}))
}

func TestP18_2Trades(t *testing.T) {
	p := publisher(t, 1)
	events := Numbered(40, Acked(Buy(3, 11, 7)), Traded(3, 1, api.Buy, 10, 5), Refreshed(1, 10, 4), Traded(3, 2, api.Sell, 0, 1<<64-1),
		Ended(3, 1, api.ByRest), Traded(9, 9, api.Sell, api.Ticks-1, 1), Traded(3, 1, api.Buy, 10, 5), Rejected(Cancel(9), api.ErrTarget))
	publishes(t, p, []api.Level{at(8, 1, 1)}, []api.Level{at(8, 3, 1)}, events,
		trade(1, api.Buy, 10, 5), trade(2, api.Sell, 0, 1<<64-1), trade(3, api.Sell, api.Ticks-1, 1), trade(4, api.Buy, 10, 5),
		level(5, api.Buy, 8, 1, 1), level(6, api.Sell, 8, 3, 1))
	shows(t, "behind trades", p.Picture(), picture(6, []api.Level{at(8, 1, 1)}, []api.Level{at(8, 3, 1)}))
	publishes(t, p, []api.Level{at(8, 1, 1)}, []api.Level{at(8, 3, 1)}, events[1:2], trade(7, api.Buy, 10, 5))
	Same(t, "Seq", p.Picture().Seq, 7)
}

func TestP18_2OthersEvents(t *testing.T) {
	p := publisher(t, 1)
	for kind := -1; kind < 30; kind++ {
		if kind != api.EvTrade {
			publishes(t, p, nil, nil, []api.Event{{Kind: kind, Side: 9, Price: -1}, {Kind: kind, Side: api.Buy, Price: 5, Qty: 3}})
		}
	}
	Same(t, "Seq", p.Picture().Seq, 0)
}

func TestP18_2WrongLevels(t *testing.T) {
	p := publisher(t, 1)
	buys, sells := []api.Level{at(8, 1, 1), at(6, 1, 1)}, []api.Level{at(9, 3, 1), at(11, 1, 1)}
	publishes(t, p, buys, sells, nil, level(1, api.Buy, 8, 1, 1), level(2, api.Sell, 9, 3, 1))
	refuses := func(buys, sells []api.Level, events []api.Event) {
		t.Helper()
		told, why := p.Publish(buys, sells, events)
		if len(told) != 0 || why != api.ErrArg {
			t.Fatalf("Publish(%v, %v, %v): %v, %v", buys, sells, events, told, why)
		}
		shows(t, "behind a refusal", p.Picture(), picture(2, buys0, sells0))
	}
	for _, l := range wrongLevels(api.Buy) {
		refuses(l, sells, nil)
		refuses(l, nil, Numbered(0, Traded(2, 1, api.Buy, 9, 1)))
	}
	for _, l := range wrongLevels(api.Sell) {
		refuses(buys, l, nil)
		refuses(nil, l, Numbered(0, Traded(2, 1, api.Buy, 9, 1)))
	}
	fair := Traded(2, 1, api.Buy, 9, 1)
	for _, e := range []api.Event{Traded(2, 1, 0, 9, 1), Traded(2, 1, 3, 9, 1), Traded(2, 1, -1, 9, 1), Traded(2, 1, api.Sell, -1, 1), Traded(2, 1, api.Buy, api.Ticks, 1), Traded(2, 1, api.Buy, 9, 0)} {
		refuses(nil, nil, []api.Event{e})
		refuses(buys, []api.Level{at(10, 1, 1)}, []api.Event{fair, Acked(Buy(1, 2, 3)), e, fair})
	}
	publishes(t, p, buys, sells, []api.Event{fair}, trade(3, api.Buy, 9, 1))
}

// What is shown in TestP18_2WrongLevels.
var (
	buys0  = []api.Level{{Price: 8, Qty: 1, Count: 1}}
	sells0 = []api.Level{{Price: 9, Qty: 3, Count: 1}}
)

func TestP18_2Edges(t *testing.T) {
	p := publisher(t, api.MaxDepth)
	buys := []api.Level{at(api.Ticks-1, 1<<64-1, math.MaxInt), at(0, 1, 1)}
	sells := []api.Level{at(0, 1, 1), at(api.Ticks-1, 1<<64-1, math.MaxInt)}
	publishes(t, p, buys, sells, nil,
		level(1, api.Buy, api.Ticks-1, 1<<64-1, math.MaxInt), level(2, api.Buy, 0, 1, 1),
		level(3, api.Sell, 0, 1, 1), level(4, api.Sell, api.Ticks-1, 1<<64-1, math.MaxInt))
	shows(t, "crossed, and great", p.Picture(), picture(4, buys, sells))
	many := make([]api.Level, api.Ticks)
	for i := range many {
		many[i] = at(i, 1, 1)
	}
	told, why := p.Publish(nil, many, nil)
	Same(t, "Publish of all ticks", why, api.OK)
	Same(t, "messages", len(told), 2+63+1)
	many[api.Ticks-1].Qty = 0
	_, why = p.Publish(nil, many, nil)
	Same(t, "Publish of what can't be, behind all that is shown", why, api.ErrArg)
}

func TestP18_2Model(t *testing.T) {
	var mix Mixer
	for range 300 {
		depth := Pick(&mix, 1, 2, 3, 8, 64)
		p := publisher(t, depth)
		var before api.Picture
		for range 20 {
			buys, sells := someLevels(&mix, api.Buy, 12), someLevels(&mix, api.Sell, 12)
			var events []api.Event
			for range mix.Below(4) {
				events = append(events, api.Event{Kind: Pick(&mix, api.EvAck, api.EvTrade), Side: 1 + mix.Below(2), Price: mix.Below(9), Qty: uint64(1 + mix.Below(9))})
			}
			now := picture(0, top(buys, depth), top(sells, depth))
			want := differ(before, now, before.Seq, tradesOf(events))
			now.Seq = before.Seq + uint64(len(want))
			publishes(t, p, buys, sells, events, want...)
			shows(t, "Picture", p.Picture(), now)
			before = now
		}
	}
}

func TestP18_2Memory(t *testing.T) {
	p := publisher(t, 9)
	list := func() []api.Level { return append(make([]api.Level, 0, 9), at(5, 1, 1)) }
	buys, sells := list(), list()
	events := append(make([]api.Event, 0, 9), Traded(2, 1, api.Buy, 9, 1))
	told, why := p.Publish(buys, sells, events)
	Same(t, "Publish", why, api.OK)
	SameList(t, "the spare room of buys", buys[:9], append(list(), make([]api.Level, 8)...))
	SameList(t, "the spare room of sells", sells[:9], append(list(), make([]api.Level, 8)...))
	SameList(t, "events", events[:9], append([]api.Event{Traded(2, 1, api.Buy, 9, 1)}, make([]api.Event, 8)...))
	Spoil(buys, at(99, 9, 9))
	Spoil(sells, at(99, 9, 9))
	Spoil(events, api.Event{})
	SameList(t, "told", told, []api.Data{trade(1, api.Buy, 9, 1), level(2, api.Buy, 5, 1, 1), level(3, api.Sell, 5, 1, 1)})
	Spoil(told, api.Data{})
	x := p.Picture()
	shows(t, "Picture", x, picture(3, list(), list()))
	Spoil(x.Buys, at(98, 9, 9))
	shows(t, "its other side", x, picture(3, x.Buys, list()))
	Spoil(x.Sells, at(98, 9, 9))
	shows(t, "Picture behind spoilt ones", p.Picture(), picture(3, list(), list()))
	publishes(t, p, list(), list(), nil)
}

func TestP18_3NewSubscriber(t *testing.T) {
	for _, hold := range []int{-1, api.MaxHold + 1, math.MaxInt, math.MinInt} {
		if s, why := feed.NewSubscriber(hold); s != nil || why != api.ErrArg {
			t.Fatalf("NewSubscriber(%d): %v, %v", hold, s, why)
		}
	}
	for _, hold := range []int{0, 1, api.MaxHold} {
		newFollower(hold).alike(t, subscriber(t, hold))
	}
}

func TestP18_4Examples(t *testing.T) {
	s := subscriber(t, 5)
	takes(t, s, level(1, api.Sell, 10, 5, 1), api.OK)
	takes(t, s, level(3, api.Sell, 12, 5, 1), api.ErrGap)
	Same(t, "Good", s.Good(), false)
	Same(t, "Missing", missing(s), gap{2, 2, true})
	takes(t, s, level(3, api.Sell, 12, 5, 1), api.ErrStale)
	takes(t, s, level(2, api.Sell, 11, 5, 1), api.OK)
	shows(t, "at the end", s.Picture(), picture(3, nil, []api.Level{at(10, 5, 1), at(11, 5, 1), at(12, 5, 1)}))
	Same(t, "Good", s.Good(), true)
	Same(t, "Missing", missing(s), gap{})

	s = subscriber(t, 0)
	takes(t, s, level(1, api.Sell, 10, 5, 1), api.OK)
	takes(t, s, level(3, api.Sell, 12, 5, 1), api.ErrGap)
	takes(t, s, level(3, api.Sell, 12, 5, 1), api.ErrGap)
	takes(t, s, level(2, api.Sell, 11, 5, 1), api.OK)
	Same(t, "Seq", s.Picture().Seq, 2)
	Same(t, "Good", s.Good(), false)
	Same(t, "Missing", missing(s), gap{3, 3, true})
	takes(t, s, level(3, api.Sell, 12, 5, 1), api.OK)
	Same(t, "Good", s.Good(), true)

	takes(t, s, level(0, api.Sell, 12, 5, 1), api.ErrArg)
	takes(t, s, level(4, api.Sell, 12, 5, 0), api.ErrArg)
	Same(t, "Recover", s.Recover(picture(9, nil, []api.Level{at(9, 1, 1), at(9, 1, 1)})), api.ErrArg)
}

func TestP18_4Wrong(t *testing.T) {
	s, f := subscriber(t, 3), newFollower(3)
	wrong := func() {
		for _, d := range wrongData() {
			seqs := []uint64{d.Seq, f.seq, f.seq + 1, f.seq + 2, 1<<64 - 1}
			if d.Seq == 0 {
				seqs = seqs[:1]
			}
			for _, seq := range seqs {
				d.Seq = seq
				takes(t, s, d, api.ErrArg)
				f.alike(t, s)
			}
		}
	}
	wrong()
	for _, d := range append(fairData(1), level(9, api.Buy, 4, 1, 1)) {
		takes(t, s, d, f.take(d))
		wrong()
	}
}

func TestP18_4Levels(t *testing.T) {
	s, f := subscriber(t, 0), newFollower(0)
	for i, d := range []api.Data{
		level(1, api.Buy, 5, 1, 1), level(2, api.Buy, 9, 2, 1), level(3, api.Buy, 7, 3, 1), level(4, api.Buy, 1, 4, 1), level(5, api.Sell, 7, 5, 1),
		level(6, api.Sell, 9, 6, 2), level(7, api.Sell, 5, 7, 2), level(8, api.Buy, 7, 8, 3), level(9, api.Sell, 7, 9, 3), level(10, api.Buy, 6, 0, 0),
		level(11, api.Buy, 9, 0, 0), level(12, api.Buy, 1, 0, 0), level(13, api.Sell, 7, 0, 0), level(14, api.Sell, 7, 0, 0), level(15, api.Sell, 0, 0, 0),
	} {
		takes(t, s, d, api.OK)
		Same(t, "the model", f.take(d), api.OK)
		f.alike(t, s)
		Same(t, "Seq", s.Picture().Seq, uint64(i+1))
	}
	shows(t, "at the end", s.Picture(), picture(15, []api.Level{at(7, 8, 3), at(5, 1, 1)}, []api.Level{at(5, 7, 2), at(9, 6, 2)}))
	Same(t, "Last, without a trade", lastOf(s), last{})
}

func TestP18_4Trades(t *testing.T) {
	s := subscriber(t, 2)
	takes(t, s, trade(1, api.Buy, 9, 5), api.OK)
	Same(t, "Last", lastOf(s), last{trade(1, api.Buy, 9, 5), true})
	takes(t, s, trade(3, api.Sell, 8, 1), api.ErrGap)
	Same(t, "Last, while one is held", lastOf(s), last{trade(1, api.Buy, 9, 5), true})
	takes(t, s, level(2, api.Buy, 8, 1, 1), api.OK)
	Same(t, "Last, of what was held", lastOf(s), last{trade(3, api.Sell, 8, 1), true})
	takes(t, s, level(4, api.Buy, 8, 0, 0), api.OK)
	Same(t, "Last, behind a level", lastOf(s), last{trade(3, api.Sell, 8, 1), true})
	shows(t, "a trade changes no level", s.Picture(), picture(4, nil, nil))
}

func TestP18_4Held(t *testing.T) {
	s := subscriber(t, 2)
	takes(t, s, trade(5, api.Buy, 5, 5), api.ErrGap)
	takes(t, s, trade(3, api.Buy, 3, 5), api.ErrGap)
	takes(t, s, trade(9, api.Buy, 9, 5), api.ErrGap)
	takes(t, s, trade(9, api.Buy, 9, 5), api.ErrGap)
	takes(t, s, trade(2, api.Buy, 2, 5), api.ErrGap)
	Same(t, "Missing", missing(s), gap{1, 2, true})
	takes(t, s, trade(3, api.Buy, 3, 6), api.ErrStale)
	takes(t, s, trade(5, api.Buy, 3, 6), api.ErrStale)
	takes(t, s, trade(1, api.Buy, 1, 5), api.OK)
	Same(t, "Missing", missing(s), gap{2, 2, true})
	takes(t, s, trade(2, api.Buy, 2, 5), api.OK)
	Same(t, "Last", lastOf(s), last{trade(3, api.Buy, 3, 5), true})
	Same(t, "Missing", missing(s), gap{4, 4, true})
	takes(t, s, trade(4, api.Buy, 4, 5), api.OK)
	Same(t, "Last", lastOf(s), last{trade(5, api.Buy, 5, 5), true})
	Same(t, "Missing, with what was forgotten", missing(s), gap{6, 9, true})
	takes(t, s, trade(8, api.Buy, 8, 5), api.ErrGap)
	Same(t, "Missing", missing(s), gap{6, 7, true})
	takes(t, s, trade(7, api.Buy, 7, 5), api.ErrGap)
	Same(t, "Missing", missing(s), gap{6, 6, true})
}

func TestP18_4MostHeld(t *testing.T) {
	for _, hold := range []int{1, 7, api.MaxHold} {
		s := subscriber(t, hold)
		for i := range uint64(hold) {
			takes(t, s, trade(i+3, api.Buy, 5, 5), api.ErrGap)
		}
		takes(t, s, trade(uint64(hold)+3, api.Buy, 5, 5), api.ErrGap)
		takes(t, s, trade(2, api.Buy, 5, 5), api.ErrGap)
		takes(t, s, trade(1, api.Buy, 5, 5), api.OK)
		Same(t, "Seq", s.Picture().Seq, 1)
		takes(t, s, trade(2, api.Buy, 5, 5), api.OK)
		Same(t, "Seq behind all that was held", s.Picture().Seq, uint64(hold)+2)
		Same(t, "Missing", missing(s), gap{uint64(hold) + 3, uint64(hold) + 3, true})
		takes(t, s, trade(uint64(hold)+4, api.Buy, 5, 5), api.ErrGap)
		takes(t, s, trade(uint64(hold)+4, api.Buy, 5, 5), api.ErrStale)
	}
}

func TestP18_5Recover(t *testing.T) {
	s := subscriber(t, 9)
	takes(t, s, level(1, api.Buy, 5, 1, 1), api.OK)
	takes(t, s, trade(2, api.Buy, 5, 1), api.OK)
	for _, seq := range []uint64{5, 8, 10, 11, 14} {
		takes(t, s, level(seq, api.Sell, int(seq), seq, 1), api.ErrGap)
	}
	for _, seq := range []uint64{0, 1} {
		Same(t, "Recover of an old one", s.Recover(picture(seq, nil, nil)), api.ErrStale)
	}
	shows(t, "behind an old one", s.Picture(), picture(2, []api.Level{at(5, 1, 1)}, nil))
	Same(t, "Recover of the same number", s.Recover(picture(2, []api.Level{at(4, 2, 2)}, nil)), api.OK)
	shows(t, "of the same number", s.Picture(), picture(2, []api.Level{at(4, 2, 2)}, nil))
	Same(t, "Missing", missing(s), gap{3, 4, true})
	Same(t, "Recover", s.Recover(picture(6, nil, []api.Level{at(1, 1, 1)})), api.OK)
	shows(t, "between two that are held", s.Picture(), picture(6, nil, []api.Level{at(1, 1, 1)}))
	Same(t, "Missing", missing(s), gap{7, 7, true})
	Same(t, "Recover", s.Recover(picture(9, []api.Level{at(3, 1, 1)}, nil)), api.OK)
	shows(t, "ahead of two that are held", s.Picture(), picture(11, []api.Level{at(3, 1, 1)}, []api.Level{at(10, 10, 1), at(11, 11, 1)}))
	Same(t, "Missing", missing(s), gap{12, 13, true})
	Same(t, "Recover", s.Recover(picture(14, nil, nil)), api.OK)
	shows(t, "of the number that is held", s.Picture(), picture(14, nil, nil))
	Same(t, "Good", s.Good(), true)
	Same(t, "Last", lastOf(s), last{trade(2, api.Buy, 5, 1), true})
}

func TestP18_5DoneFromHeld(t *testing.T) {
	s := subscriber(t, 3)
	takes(t, s, trade(3, api.Buy, 3, 1), api.ErrGap)
	takes(t, s, trade(4, api.Buy, 4, 1), api.ErrGap)
	takes(t, s, trade(6, api.Buy, 6, 1), api.ErrGap)
	takes(t, s, trade(7, api.Buy, 7, 1), api.ErrGap)
	Same(t, "Recover", s.Recover(picture(3, nil, nil)), api.OK)
	Same(t, "Last", lastOf(s), last{trade(4, api.Buy, 4, 1), true})
	takes(t, s, trade(8, api.Buy, 8, 1), api.ErrGap)
	takes(t, s, trade(7, api.Buy, 7, 1), api.ErrGap)
	takes(t, s, trade(9, api.Buy, 9, 1), api.ErrGap)
	takes(t, s, trade(5, api.Buy, 5, 1), api.OK)
	Same(t, "Last", lastOf(s), last{trade(8, api.Buy, 8, 1), true})
	Same(t, "Missing", missing(s), gap{9, 9, true})
	Same(t, "Recover", s.Recover(picture(20, nil, nil)), api.OK)
	Same(t, "Last", lastOf(s), last{trade(8, api.Buy, 8, 1), true})
	Same(t, "Missing, ahead of the greatest number", missing(s), gap{})
}

func TestP18_5Wrong(t *testing.T) {
	s, f := subscriber(t, 9), newFollower(9)
	for _, d := range append(fairData(1), level(9, api.Buy, 4, 1, 1)) {
		takes(t, s, d, f.take(d))
	}
	for _, seq := range []uint64{0, f.seq - 1, f.seq, f.seq + 1, 9, 1<<64 - 1} {
		for _, l := range wrongLevels(api.Buy) {
			Same(t, "Recover", s.Recover(picture(seq, l, nil)), api.ErrArg)
			f.alike(t, s)
		}
		for _, l := range wrongLevels(api.Sell) {
			Same(t, "Recover", s.Recover(picture(seq, []api.Level{at(9, 1, 1)}, l)), api.ErrArg)
			f.alike(t, s)
		}
	}
}

func TestP18_5Edges(t *testing.T) {
	s := subscriber(t, 9)
	many := make([]api.Level, api.Ticks)
	for i := range many {
		many[i] = at(i, 1<<64-1, math.MaxInt)
	}
	crossed := slices.Clone(many)
	slices.Reverse(crossed)
	Same(t, "Recover of all ticks, crossed", s.Recover(picture(7, crossed, many)), api.OK)
	shows(t, "all ticks", s.Picture(), picture(7, crossed, many))
	takes(t, s, level(8, api.Buy, 0, 0, 0), api.OK)
	takes(t, s, level(9, api.Sell, 0, 0, 0), api.OK)
	shows(t, "all but one", s.Picture(), picture(9, crossed[:api.Ticks-1], many[1:]))
}

func TestP18_5GreatestNumbers(t *testing.T) {
	const most = 1<<64 - 1
	s, f := subscriber(t, 9), newFollower(9)
	for _, seq := range []uint64{most, most - 2, most - 3, 5} {
		d := level(seq, api.Buy, int(seq%9), 1, 1)
		Same(t, "the model", f.take(d), api.ErrGap)
		takes(t, s, d, api.ErrGap)
		f.alike(t, s)
	}
	Same(t, "Missing", missing(s), gap{1, 4, true})
	x := picture(most-4, nil, []api.Level{at(1, 1, 1)})
	Same(t, "the model", f.recover(x), api.OK)
	Same(t, "Recover", s.Recover(x), api.OK)
	f.alike(t, s)
	Same(t, "Missing", missing(s), gap{most - 1, most - 1, true})
	takes(t, s, trade(most-1, api.Buy, 1, 1), api.OK)
	Same(t, "Seq", s.Picture().Seq, most)
	Same(t, "Good", s.Good(), true)
	takes(t, s, trade(most, api.Buy, 1, 1), api.ErrStale)
	takes(t, s, trade(1, api.Buy, 1, 1), api.ErrStale)
	takes(t, s, trade(0, api.Buy, 1, 1), api.ErrArg)
	Same(t, "Recover", s.Recover(picture(most-1, nil, nil)), api.ErrStale)
	Same(t, "Recover", s.Recover(picture(most, nil, nil)), api.OK)
	shows(t, "at the end", s.Picture(), picture(most, nil, nil))
}

func TestP18_5Memory(t *testing.T) {
	s := subscriber(t, 9)
	list := func() []api.Level { return append(make([]api.Level, 0, 9), at(5, 1, 1)) }
	x := picture(3, list(), list())
	Same(t, "Recover", s.Recover(x), api.OK)
	takes(t, s, level(4, api.Buy, 4, 1, 1), api.OK)
	takes(t, s, level(5, api.Buy, 5, 7, 1), api.OK)
	takes(t, s, level(6, api.Sell, 5, 0, 0), api.OK)
	SameList(t, "buys, and their spare room", x.Buys[:9], append(list(), make([]api.Level, 8)...))
	SameList(t, "sells, and their spare room", x.Sells[:9], append(list(), make([]api.Level, 8)...))
	takes(t, s, level(7, api.Sell, 6, 1, 1), api.OK)
	Spoil(x.Buys, at(99, 9, 9))
	Spoil(x.Sells, at(99, 9, 9))
	want := picture(7, []api.Level{at(5, 7, 1), at(4, 1, 1)}, []api.Level{at(6, 1, 1)})
	got := s.Picture()
	shows(t, "Picture", got, want)
	Spoil(got.Buys, at(98, 9, 9))
	SameList(t, "its other side", got.Sells, want.Sells)
	Spoil(got.Sells, at(98, 9, 9))
	shows(t, "Picture behind spoilt ones", s.Picture(), want)
	got = s.Picture()
	takes(t, s, level(8, api.Buy, 5, 9, 1), api.OK)
	takes(t, s, level(9, api.Sell, 6, 0, 0), api.OK)
	shows(t, "a picture that was told", got, want)
}

func TestP18_6Model(t *testing.T) {
	var mix Mixer
	for range 400 {
		hold := Pick(&mix, 0, 1, 2, 3, 9, api.MaxHold)
		s, f := subscriber(t, hold), newFollower(hold)
		for range 60 {
			near := f.seq + uint64(mix.Below(9)) - uint64(mix.Below(3))
			switch n := mix.Below(20); {
			case n < 1:
				x := picture(near, someLevels(&mix, api.Buy, 5), someLevels(&mix, api.Sell, 5))
				Same(t, "Recover", s.Recover(x), f.recover(x))
			case n < 3:
				d := Pick(&mix, wrongData()...)
				takes(t, s, d, f.take(d))
			case n < 6:
				d := trade(near, 1+mix.Below(2), mix.Below(9), uint64(1+mix.Below(9)))
				takes(t, s, d, f.take(d))
			default:
				qty := mix.Below(3)
				d := level(near, 1+mix.Below(2), mix.Below(9), uint64(qty), qty)
				takes(t, s, d, f.take(d))
			}
			f.alike(t, s)
		}
	}
}

func TestP18_7Frames(t *testing.T) {
	for _, d := range append(fairData(1), fairData(1<<64-9)...) {
		f, why := feed.Pack(d)
		Same(t, "Pack", why, api.OK)
		Same(t, "the frame", f, api.Frame{Kind: byte(79 + d.Kind), Words: [7]uint64{d.Seq, uint64(d.Side), uint64(d.Price), d.Qty, uint64(d.Count), 0, 0}})
		x, why := feed.Unpack(f)
		Same(t, "Unpack", why, api.OK)
		Same(t, "the message", x, d)
	}
	f, _ := feed.Pack(level(7, api.Sell, 10, 5, 1))
	Same(t, "a level's", f, api.Frame{Kind: 80, Words: [7]uint64{7, 2, 10, 5, 1}})
	f, _ = feed.Pack(trade(8, api.Buy, 10, 5))
	Same(t, "a trade's", f, api.Frame{Kind: 81, Words: [7]uint64{8, 1, 10, 5}})
}

func TestP18_7WrongData(t *testing.T) {
	for _, d := range wrongData() {
		f, why := feed.Pack(d)
		if f != (api.Frame{}) || why != api.ErrField {
			t.Fatalf("Pack(%+v): %+v, %v", d, f, why)
		}
	}
}

func TestP18_7WrongFrames(t *testing.T) {
	refuses := func(f api.Frame, want api.Errno) {
		t.Helper()
		d, why := feed.Unpack(f)
		if d != (api.Data{}) || why != want {
			t.Fatalf("Unpack(%+v): %+v, %v, wanted %v", f, d, why, want)
		}
	}
	fair := [7]uint64{7, 2, 10, 5, 1}
	for kind := range 256 {
		if kind != 80 && kind != 81 {
			refuses(api.Frame{Kind: byte(kind), Words: fair}, api.ErrMessage)
			refuses(api.Frame{Kind: byte(kind)}, api.ErrMessage)
		}
	}
	refuses(api.Frame{Kind: 80}, api.ErrField)
	refuses(api.Frame{Kind: 81}, api.ErrField)
	refuses(api.Frame{Kind: 81, Words: fair}, api.ErrField)
	refuses(api.Frame{Kind: 81, Words: [7]uint64{7, 2, 10, 0, 0}}, api.ErrField)
	for place, words := range [][]uint64{
		{0}, {0, 3, 1 << 32, 1<<32 + 2, 1<<64 - 1, 1<<63 + 2}, {api.Ticks, 1 << 32, 1<<32 + 10, 1 << 63, 1<<64 - 1, 1<<63 + 10},
		{0}, {0, 1 << 63, 1<<64 - 1}, {1, 1 << 63}, {1, 1 << 63},
	} {
		for _, word := range words {
			f := api.Frame{Kind: 80, Words: fair}
			f.Words[place] = word
			refuses(f, api.ErrField)
		}
	}
}

func TestP18_7OneForm(t *testing.T) {
	var mix Mixer
	taken := 0
	for range 200000 {
		f := api.Frame{Kind: byte(79 + mix.Below(4))}
		for i := range f.Words {
			f.Words[i] = Pick[uint64](&mix, 0, 0, 0, 1, 1, 2, 3, 9, api.Ticks-1, api.Ticks, 1<<63-1, 1<<63, 1<<64-1)
			if i >= 5 && mix.Below(5) > 0 {
				f.Words[i] = 0
			}
		}
		d, why := feed.Unpack(f)
		if why != api.OK {
			continue
		}
		taken++
		Same(t, "whether it can be", canBe(d), true)
		again, why := feed.Pack(d)
		Same(t, "Pack", why, api.OK)
		Same(t, "the frame", again, f)
	}
	if taken < 1000 {
		t.Fatalf("only %d frames were taken", taken)
	}
}
