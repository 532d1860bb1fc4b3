package console_test

import (
	"math"
	"slices"
	"strings"
	"testing"

	"bourse/api"
	"bourse/console"
	"bourse/rules"
	. "bourse/sample"
)

func TestP27_4Examples(t *testing.T) {
	s := stats(traded([2]int{100, 5}, [2]int{103, 1}, [2]int{99, 4}))
	Same(t, "Day", s.Day(), api.Bar{Open: 100, High: 103, Low: 99, Close: 99, Volume: 10, Trades: 3})
	Same(t, "Turnover", s.Turnover().Text(), "9.99")
	Same(t, "Mean", meanOf(s), mean{9990, true})
	Same(t, "Report", console.Report("ABC", nil, nil, 5), "BOOK ABC\nTRADES 0 VOLUME 0 TURNOVER 0.00\n")
}

func TestP27_3None(t *testing.T) {
	others := []api.Event{{Kind: 0, Price: 5, Qty: 5}, Acked(Buy(1, 5, 5)), Rejected(Cancel(5), api.ErrTarget), Ended(1, 5, 1), Refreshed(1, 5, 5), Stopped(Stop(1, 5, Buy(0, 5, 5)), 0), Triggered(1, 5), {Kind: api.EvPhase, Price: 5, Reason: 1}, {Kind: api.EvPrice, Price: 5, Qty: 5}, {Kind: api.EvHalt, Price: 5}, {Kind: api.EvResume, Price: 5}, {Kind: -3, Price: 5, Qty: 5}}
	for _, s := range []*console.Stats{stats(), stats(nil), stats(others), new(console.Stats)} {
		Same(t, "Day", s.Day(), api.Bar{})
		SameList(t, "Bars", s.Bars(1), nil)
		Same(t, "Turnover", s.Turnover().Text(), "0.00")
		Same(t, "Mean", meanOf(s), mean{})
		Same(t, "Report", console.Report("", nil, s, 5), "BOOK \nTRADES 0 VOLUME 0 TURNOVER 0.00\n")
		s.Add(traded([2]int{7, 2}))
		s.Add(others)
		Same(t, "Day", s.Day(), api.Bar{Open: 7, High: 7, Low: 7, Close: 7, Volume: 2, Trades: 1})
	}
}

func TestP27_4Bars(t *testing.T) {
	s := stats(traded([2]int{5, 1}, [2]int{3, 2}, [2]int{9, 3}), traded([2]int{4, 4}, [2]int{6, 5}))
	five := []api.Bar{{Open: 5, High: 5, Low: 5, Close: 5, Volume: 1, Trades: 1}, {Open: 3, High: 3, Low: 3, Close: 3, Volume: 2, Trades: 1}, {Open: 9, High: 9, Low: 9, Close: 9, Volume: 3, Trades: 1}, {Open: 4, High: 4, Low: 4, Close: 4, Volume: 4, Trades: 1}, {Open: 6, High: 6, Low: 6, Close: 6, Volume: 5, Trades: 1}}
	day := api.Bar{Open: 5, High: 9, Low: 3, Close: 6, Volume: 15, Trades: 5}
	for _, x := range []struct {
		each int
		want []api.Bar
	}{
		{math.MinInt, nil}, {-1, nil}, {0, nil}, {1, five},
		{2, []api.Bar{{Open: 5, High: 5, Low: 3, Close: 3, Volume: 3, Trades: 2}, {Open: 9, High: 9, Low: 4, Close: 4, Volume: 7, Trades: 2}, five[4]}},
		{3, []api.Bar{{Open: 5, High: 9, Low: 3, Close: 9, Volume: 6, Trades: 3}, {Open: 4, High: 6, Low: 4, Close: 6, Volume: 9, Trades: 2}}},
		{4, []api.Bar{{Open: 5, High: 9, Low: 3, Close: 4, Volume: 10, Trades: 4}, five[4]}},
		{5, []api.Bar{day}}, {6, []api.Bar{day}}, {math.MaxInt, []api.Bar{day}},
	} {
		SameList(t, "Bars", s.Bars(x.each), x.want)
	}
	Same(t, "Day", s.Day(), day)
}

// Prices and quantities may be any; those that are no prices count as 0 where they are multiplied.
func TestP27_4Ends(t *testing.T) {
	for _, x := range []struct {
		l        []api.Event
		day      api.Bar
		turnover string
		mean     mean
	}{
		{[]api.Event{Traded(1, 2, 1, -5, 3)}, api.Bar{Open: -5, High: -5, Low: -5, Close: -5, Volume: 3, Trades: 1}, "0.00", mean{0, true}},
		{[]api.Event{Traded(1, 2, 1, api.Ticks, 3), Traded(1, 2, 1, api.Ticks-1, 1)}, api.Bar{Open: api.Ticks, High: api.Ticks, Low: api.Ticks - 1, Close: api.Ticks - 1, Volume: 4, Trades: 2}, "2621.43", mean{6553575, true}},
		{[]api.Event{Traded(1, 2, 1, math.MaxInt, 1), Traded(1, 2, 1, math.MinInt, 1)}, api.Bar{Open: math.MaxInt, High: math.MaxInt, Low: math.MinInt, Close: math.MinInt, Volume: 2, Trades: 2}, "0.00", mean{0, true}},
		{[]api.Event{Traded(1, 2, 1, 1<<32+7, 1)}, api.Bar{Open: 1<<32 + 7, High: 1<<32 + 7, Low: 1<<32 + 7, Close: 1<<32 + 7, Volume: 1, Trades: 1}, "0.00", mean{0, true}},
		{[]api.Event{Traded(1, 2, 1, 9, 0)}, api.Bar{Open: 9, High: 9, Low: 9, Close: 9, Trades: 1}, "0.00", mean{}},
		{[]api.Event{Traded(1, 2, 1, 9, math.MaxUint64), Traded(1, 2, 1, 10, math.MaxUint64), Traded(1, 2, 1, 0, 3)}, api.Bar{Open: 9, High: 10, Low: 0, Close: 0, Volume: 1, Trades: 3}, "3504881374004814806.85", mean{950, true}},
		{[]api.Event{Traded(1, 2, 1, api.Ticks-1, math.MaxUint64)}, api.Bar{Open: api.Ticks - 1, High: api.Ticks - 1, Low: api.Ticks - 1, Close: api.Ticks - 1, Volume: math.MaxUint64, Trades: 1}, "48356848317144429890109.45", mean{26214300, true}},
	} {
		s := stats(x.l)
		Same(t, "Day", s.Day(), x.day)
		SameList(t, "Bars", s.Bars(100), []api.Bar{x.day})
		Same(t, "Turnover", s.Turnover().Text(), x.turnover)
		Same(t, "Mean", meanOf(s), x.mean)
		Same(t, "Report", console.Report("A", nil, s, 0), modelReport("A", nil, x.l, 0))
	}
}

// Of two hundredths as near the even one is told.
func TestP27_4Rounded(t *testing.T) {
	for _, x := range []struct {
		l    [][2]int
		want uint64
	}{
		{[][2]int{{0, 199}, {1, 1}}, 0},    // 0.5
		{[][2]int{{0, 197}, {1, 3}}, 2},    // 1.5
		{[][2]int{{0, 195}, {1, 5}}, 2},    // 2.5
		{[][2]int{{0, 199}, {1, 2}}, 1},    // 0.995
		{[][2]int{{0, 200}, {1, 1}}, 0},    // 0.4975
		{[][2]int{{0, 2}, {1, 1}}, 33},     // 33.33
		{[][2]int{{0, 1}, {1, 2}}, 67},     // 66.67
		{[][2]int{{0, 39}, {1, 1}}, 2},     // 2.5
		{[][2]int{{0, 37}, {1, 3}}, 8},     // 7.5
		{[][2]int{{100, 7}}, 10000},        // the price itself
		{[][2]int{{10, 1}, {11, 1}}, 1050}, // between
	} {
		s := stats(traded(x.l...))
		Same(t, "Mean", meanOf(s), mean{x.want, true})
		Same(t, "the model's", modelMean(traded(x.l...)), mean{x.want, true})
	}
}

// likelyTrades is events, many of them trades.
func likelyTrades(mix *Mixer, n int) []api.Event {
	var l []api.Event
	for range n {
		e := Traded(mix.Next(), mix.Next(), Pick(mix, 1, 2), mix.Below(300), uint64(mix.Below(20)))
		switch mix.Below(12) {
		case 0:
			e = Acked(Likely(mix, 9, 50))
		case 1:
			e.Price = Pick(mix, -1, 0, api.Ticks-1, api.Ticks, math.MaxInt, math.MinInt)
		case 2:
			e.Qty = Pick(mix, 0, math.MaxUint64, mix.Next())
		}
		l = append(l, e)
	}
	return l
}

// The day is what its bars come to, and it does not matter in what pieces trades came.
func TestP27_7Bars(t *testing.T) {
	var mix Mixer = 277
	for range 400 {
		l := likelyTrades(&mix, mix.Below(40))
		all, pieces := stats(l), console.NewStats()
		for rest := l; len(rest) > 0; {
			n := mix.Below(min(5, len(rest)) + 1)
			pieces.Add(rest[:n])
			rest = rest[n:]
		}
		for _, s := range []*console.Stats{all, pieces} {
			Same(t, "Day", s.Day(), modelBar(l))
			Same(t, "Turnover", s.Turnover().Text(), modelTurnover(l))
			Same(t, "Mean", meanOf(s), modelMean(l))
			for _, each := range []int{1, 2, 3, 7, 100} {
				var want []api.Bar
				for part := range slices.Chunk(trades(l), each) {
					want = append(want, modelBar(part))
				}
				SameList(t, "Bars", s.Bars(each), want)
			}
		}
		Same(t, "Day", joined(all.Bars(1+mix.Below(9))), all.Day())
	}
}

// joined is the bar of bars.
func joined(l []api.Bar) api.Bar {
	var out api.Bar
	for i, b := range l {
		if i == 0 {
			out.Open, out.High, out.Low = b.Open, b.High, b.Low
		}
		out.High, out.Low, out.Close = max(out.High, b.High), min(out.Low, b.Low), b.Close
		out.Volume += b.Volume
		out.Trades += b.Trades
	}
	return out
}

func TestP27_8Between(t *testing.T) {
	var mix Mixer = 278
	for range 5000 {
		s := console.NewStats()
		for range 1 + mix.Below(5) {
			s.Add([]api.Event{Traded(1, 2, 1, Pick(&mix, mix.Below(4), mix.Below(api.Ticks), api.Ticks-1), Pick(&mix, uint64(mix.Below(3)), mix.Next(), math.MaxUint64))})
		}
		day, m := s.Day(), meanOf(s)
		if !m.ok {
			Same(t, "Turnover", s.Turnover().Text(), "0.00")
			continue
		}
		Same(t, "whether it lies between", uint64(100*day.Low) <= m.n && m.n <= uint64(100*day.High), true)
	}
}

func TestP27_5Report(t *testing.T) {
	b, _ := rules.New(api.Config{Capacity: 9})
	for _, c := range []api.Command{Buy(1, 99, 5), Buy(2, 98, 7), Buy(3, 99, 4294967295), Sell(4, 262143, 1), Sell(5, 100, 12), Sell(6, 101, 3)} {
		b.Do(c)
	}
	s := stats(traded([2]int{100, 5}, [2]int{103, 1}, [2]int{99, 4}))
	head := "BOOK ABC\n"
	first := "  1     2   4294967300     99 |    100           12     1\n"
	second := "  2     1            7     98 |    101            3     1\n"
	third := "  3                           | 262143            1     1\n"
	tail := "TRADES 3 VOLUME 10 TURNOVER 9.99\nOPEN 100 HIGH 103 LOW 99 CLOSE 99 MEAN 99.90\n"
	for _, x := range []struct {
		most int
		want string
	}{{math.MinInt, ""}, {-1, ""}, {0, ""}, {1, first}, {2, first + second}, {3, first + second + third}, {math.MaxInt, first + second + third}} {
		Same(t, "Report", console.Report("ABC", b, s, x.most), head+x.want+tail)
	}
	b.Do(Cancel(4))
	b.Do(Cancel(5))
	b.Do(Cancel(6))
	Same(t, "Report", console.Report("ABC", b, nil, 1), head+"  1     2   4294967300     99 |                          \nTRADES 0 VOLUME 0 TURNOVER 0.00\n")
	Same(t, "Report", console.Report("a b\n", nil, stats(traded([2]int{5, 0})), 1), "BOOK a b\n\nTRADES 1 VOLUME 0 TURNOVER 0.00\nOPEN 5 HIGH 5 LOW 5 CLOSE 5 MEAN -\n")
	Same(t, "Report", console.Report("A", nil, stats(traded([2]int{0, 200}, [2]int{1, 10})), 1), "BOOK A\nTRADES 2 VOLUME 210 TURNOVER 0.10\nOPEN 0 HIGH 1 LOW 0 CLOSE 1 MEAN 0.05\n")
}

// levels is an engine that shows what it is told to, and has no orders.
type levels struct {
	api.Engine
	sides [3][]api.Level
}

func (l levels) Depth(side, most int) []api.Level {
	return l.sides[side][:max(0, min(most, len(l.sides[side])))]
}

// A number that is longer than its places has as many as it has.
func TestP27_5Long(t *testing.T) {
	wide := []api.Level{{Price: 1234567, Qty: math.MaxUint64, Count: 123456}, {Price: -5, Qty: 999999999999, Count: -99999}}
	e := levels{sides: [3][]api.Level{nil, wide, wide[:1]}}
	Same(t, "Report", console.Report("A", e, nil, 2), "BOOK A\n  1 123456 18446744073709551615 1234567 | 1234567 18446744073709551615 123456\n  2 -99999 999999999999     -5 |                          \nTRADES 0 VOLUME 0 TURNOVER 0.00\n")
	for range 10 {
		e.sides[api.Sell] = append(e.sides[api.Sell], e.sides[api.Sell]...)
	}
	got := console.Report("A", e, nil, 2000)
	Same(t, "Report", got, modelReport("A", e, nil, 2000))
	Same(t, "the line of the level 1000", strings.Contains(got, "\n1000                           | 1234567"), true)
}

// A report changes nothing, and is the same whatever engine it is of.
func TestP27_5Books(t *testing.T) {
	var mix Mixer = 275
	for range 60 {
		b, _ := rules.New(api.Config{Capacity: 20})
		var told []api.Event
		for range 40 {
			told = append(told, b.Do(Likely(&mix, b.Book().High, 30))...)
		}
		s, before := stats(told), b.Book()
		for _, most := range []int{-1, 0, 1, 3, 100} {
			Same(t, "Report", console.Report("ABC", b, s, most), modelReport("ABC", b, told, most))
		}
		Keeps(t, b, before)
		Same(t, "Day", s.Day(), modelBar(told))
	}
}

// What was handed in is neither kept nor changed, and what was answered is nobody else's.
func TestP27_3Memory(t *testing.T) {
	l := traded([2]int{5, 1}, [2]int{3, 2})
	kept := slices.Clone(l)
	s := stats(l)
	SameList(t, "what was handed in", l, kept)
	Spoil(l, Traded(1, 2, 1, 99, 99))
	Same(t, "Day", s.Day(), modelBar(kept))
	bars := s.Bars(1)
	Spoil(s.Bars(1), api.Bar{})
	SameList(t, "Bars", bars, s.Bars(1))
	other := console.NewStats()
	other.Add(kept)
	Same(t, "Day", s.Day(), other.Day())
}
