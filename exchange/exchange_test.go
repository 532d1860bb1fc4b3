package exchange_test

import (
	"math"
	"strings"
	"testing"

	"bourse/api"
	"bourse/exchange"
	. "bourse/sample"
)

func TestP26_1New(t *testing.T) {
	for _, x := range []struct {
		tariff api.Tariff
		why    api.Errno
	}{
		{api.Tariff{}, api.ErrArg}, {api.Tariff{Maker: 1, Taker: 1}, api.ErrArg}, {api.Tariff{Maker: 3, By: 2}, api.ErrArg}, {api.Tariff{Taker: 3, By: 2}, api.ErrArg},
		{api.Tariff{By: 1}, api.OK}, {api.Tariff{Maker: 2, Taker: 2, By: 2}, api.OK},
	} {
		for _, cents := range []uint64{0, 500, math.MaxUint64} {
			e, why := exchange.New(x.tariff, cents)
			Same(t, "New", why, x.why)
			Same(t, "an exchange", e != nil, x.why == api.OK)
			if e == nil {
				continue
			}
			SameList(t, "Names", e.Names(), nil)
			Same(t, "Seq", e.Seq(), 0)
			Same(t, "Fees", e.Fees().Text(), "0.00")
			_, there := e.Margin(1)
			Same(t, "a member", there, false)
		}
	}
}

// What the house has of its own bears a loss behind the fund of the one that fell.
func TestP26_1Cents(t *testing.T) {
	for _, x := range []struct{ cents, house, left uint64 }{{0, 0, 300}, {100, 100, 200}, {1000, 300, 0}} {
		e, why := exchange.New(api.Tariff{By: 1}, x.cents)
		Same(t, "New", why, api.OK)
		e.List("ABC", usual(), 0, 1)
		Same(t, "Join", e.Join(7, open, 200, 0), api.OK)
		Same(t, "Join", e.Join(8, open, 0, 0), api.OK)
		turns(t, e, 1, api.PreOpen)
		taken(t, e, buys(7, 1, 150, 10), sells(8, 1, 150, 10))
		turns(t, e, 1, api.Opened)
		turns(t, e, 1, api.PreClose)
		taken(t, e, buys(8, 2, 100, 1), sells(7, 2, 100, 1))
		turns(t, e, 1, api.Closed)
		// 9 that were bought at 150, and one between, at 100 now: 5.00 are lost.
		calls, falls, _, why := e.Settle()
		Same(t, "Settle", why, api.OK)
		Same(t, "calls", len(calls), 1)
		Same(t, "falls", len(falls), 0)
		calls, falls, _, why = e.Settle()
		Same(t, "Settle", why, api.OK)
		Same(t, "calls", len(calls), 0)
		Same(t, "falls", len(falls), 1)
		c := falls[0].Cover
		Same(t, "Own", c.Own, 200)
		Same(t, "House", c.House, x.house)
		Same(t, "Left", c.Left, x.left)
	}
}

func TestP26_2List(t *testing.T) {
	spoilt := func(turn func(s *api.Session)) api.Session {
		s := usual()
		turn(&s)
		return s
	}
	x := bare(t)
	for _, l := range []struct {
		name     string
		s        api.Session
		part, by uint32
		number   uint32
		why      api.Errno
	}{
		{"ABC", usual(), 1, 10, 1, api.OK},
		{"ABC", usual(), 1, 10, 0, api.ErrName}, {"ABC", api.Session{}, 9, 0, 0, api.ErrName},
		{"", usual(), 1, 10, 0, api.ErrName}, {"ABCDEFGHI", usual(), 1, 10, 0, api.ErrName}, {"abc", usual(), 1, 10, 0, api.ErrName}, {"AB1", usual(), 1, 10, 0, api.ErrName}, {"A B", usual(), 1, 10, 0, api.ErrName}, {"A@", usual(), 1, 10, 0, api.ErrName}, {"A[", usual(), 1, 10, 0, api.ErrName}, {"Ä", api.Session{}, 1, 0, 0, api.ErrName},
		{"B", usual(), 1, 0, 0, api.ErrArg}, {"B", usual(), 0, 0, 0, api.ErrArg}, {"B", usual(), 11, 10, 0, api.ErrArg}, {"B", usual(), math.MaxUint32, math.MaxUint32 - 1, 0, api.ErrArg},
		{"B", api.Session{}, 1, 10, 0, api.ErrArg},
		{"B", spoilt(func(s *api.Session) { s.Config.Capacity = 0 }), 1, 10, 0, api.ErrArg},
		{"B", spoilt(func(s *api.Session) { s.Config.Meet = 4 }), 1, 10, 0, api.ErrArg},
		{"B", spoilt(func(s *api.Session) { s.Engine = 4 }), 1, 10, 0, api.ErrArg},
		{"B", spoilt(func(s *api.Session) { s.Reference = api.Ticks }), 1, 10, 0, api.ErrArg},
		{"B", spoilt(func(s *api.Session) { s.Static = -1 }), 1, 10, 0, api.ErrArg},
		{"B", spoilt(func(s *api.Session) { s.Dynamic = api.Ticks + 1 }), 1, 10, 0, api.ErrArg},
		{"B", spoilt(func(s *api.Session) { s.Stops = api.MaxStops + 1 }), 1, 10, 0, api.ErrArg},
		{"B", usual(), 10, 10, 2, api.OK}, {"ABCDEFGH", usual(), 0, 1, 3, api.OK}, {"AB", usual(), math.MaxUint32, math.MaxUint32, 4, api.OK}, {"AZ", spoilt(func(s *api.Session) { s.Reference = 7 }), 1, 10, 5, api.OK},
	} {
		number, why := x.List(l.name, l.s, l.part, l.by)
		Same(t, l.name, why, l.why)
		Same(t, l.name, number, l.number)
	}
	SameList(t, "Names", x.Names(), []string{"ABC", "B", "ABCDEFGH", "AB", "AZ"})
	for i := range uint32(5) {
		Same(t, "Phase", x.Phase(i+1), api.Closed)
		keeps(t, x.Book(i+1), api.Book{Config: usual().Config})
		Same(t, "Picture", len(x.Picture(i+1).Buys), 0)
	}
	for n := uint32(6); n <= 16; n++ {
		number, why := x.List("I"+strings.Repeat("I", int(n)%7)+string(rune('A'+n)), usual(), 1, 10)
		Same(t, "List", why, api.OK)
		Same(t, "List", number, n)
	}
	for _, name := range []string{"NEXT", "ABC", ""} {
		number, why := x.List(name, api.Session{}, 1, 0)
		Same(t, "List", why, api.ErrLong)
		Same(t, "List", number, 0)
	}
	Same(t, "Names", len(x.Names()), 16)
}

// keeps ends a test where a book is not just that one.
func keeps(t *testing.T, got, want api.Book) {
	t.Helper()
	if !SameBook(got, want) {
		t.Fatalf("Book: got %+v, wanted %+v", got, want)
	}
}

// The desk of an instrument has the limits of those who joined ahead of it and behind it.
func TestP26_2Limits(t *testing.T) {
	x := bare(t)
	first, second := open, open
	first.Order, second.Order = 5, 6
	Same(t, "Join", x.Join(7, first, 0, 0), api.OK)
	x.List("ABC", usual(), 1, 10)
	Same(t, "Join", x.Join(8, second, 0, 0), api.OK)
	x.List("XYZ", usual(), 1, 10)
	for _, i := range []uint32{1, 2} {
		for _, m := range []struct {
			member uint32
			want   api.Limits
		}{{7, first}, {8, second}} {
			s, there := x.Standing(m.member, i)
			Same(t, "Standing", there, true)
			Same(t, "Standing", s, api.Standing{Limits: m.want})
		}
	}
	for _, s := range [][2]uint32{{9, 1}, {7, 0}, {7, 3}, {0, 1}, {7, math.MaxUint32}} {
		got, there := x.Standing(s[0], s[1])
		Same(t, "Standing", there, false)
		Same(t, "Standing", got, api.Standing{})
	}
	refuses(t, x, buys(7, 1, 100, 6), api.ErrOrder)
	refuses(t, x, in(2, buys(8, 1, 100, 7)), api.ErrOrder)
}

func TestP26_3Join(t *testing.T) {
	x := bare(t)
	few := open
	few.Count = -1
	const top = 1 << 62
	for _, j := range []struct {
		member      uint32
		l           api.Limits
		fund, cents uint64
		why         api.Errno
	}{
		{0, open, 0, 0, api.ErrArg}, {0, few, top + 1, top + 1, api.ErrArg}, {7, few, 0, 0, api.ErrArg}, {7, few, top + 1, 0, api.ErrArg}, {7, api.Limits{Count: math.MinInt}, 0, 0, api.ErrArg},
		{7, open, 0, top + 1, api.ErrCents}, {7, open, top + 1, 0, api.ErrCents}, {7, open, math.MaxUint64, math.MaxUint64, api.ErrCents},
		{7, open, 1000, 5000, api.OK}, {7, open, 1000, 5000, api.ErrThere}, {7, few, 0, 0, api.ErrArg}, {7, open, top + 1, top + 1, api.ErrThere},
		{8, api.Limits{}, top, top, api.OK}, {9, open, top - 1000, 0, api.OK}, {10, open, 1, 0, api.ErrCents}, {10, open, 0, top + 1, api.ErrCents}, {10, open, 0, 1, api.OK}, {math.MaxUint32, open, 0, 0, api.OK},
	} {
		Same(t, "Join", x.Join(j.member, j.l, j.fund, j.cents), j.why)
	}
	for _, m := range []struct {
		member uint32
		cash   string
		fund   uint64
		there  bool
	}{
		{7, "50.00", 1000, true}, {8, "46116860184273879.04", top, true}, {9, "0.00", top - 1000, true}, {10, "0.01", 0, true}, {math.MaxUint32, "0.00", 0, true}, {0, "0.00", 0, false}, {11, "0.00", 0, false},
	} {
		cash(t, x, m.member, m.cash)
		s, there := x.Margin(m.member)
		Same(t, "Margin", there, m.there)
		Same(t, "Fund", s.Fund, m.fund)
		Same(t, "Margin", s.Margin.Sign(), 0)
		Same(t, "Called", s.Called || s.Out, false)
		Same(t, "Member", s.Member == m.member, m.there || m.member == 0)
	}
	for n := uint32(100); n < 159; n++ {
		Same(t, "Join", x.Join(n, open, 0, 0), api.OK)
	}
	for _, n := range []uint32{0, 7, 200} {
		Same(t, "Join", x.Join(n, few, top+1, top+1), api.ErrLong)
	}
}

// Of a Join that is refused nothing is there.
func TestP26_3Refused(t *testing.T) {
	x := closed(t)
	before := asked(x)
	few := open
	few.Count = -1
	x.Join(7, few, 5, 5)
	x.Join(0, open, 5, 5)
	x.Join(7, open, 5, 1<<62+1)
	x.Join(7, open, 1<<62+1, 5)
	Same(t, "what can be asked", asked(x), before)
	Same(t, "Dial", x.Dial(7, "ANN"), api.ErrNobody)
	refuses(t, x, buys(7, 1, 100, 1), api.ErrNobody)
	Same(t, "Join", x.Join(7, open, 5, 5), api.OK)
}

func TestP26_3Pay(t *testing.T) {
	x := closed(t, 7)
	for _, p := range []struct {
		member uint32
		cents  uint64
		why    api.Errno
	}{{0, 5, api.ErrNobody}, {8, 0, api.ErrNobody}, {7, 0, api.ErrCents}, {7, 1<<62 + 1, api.ErrCents}, {7, 1, api.OK}, {7, 1 << 62, api.OK}} {
		Same(t, "Pay", x.Pay(p.member, p.cents), p.why)
	}
	s, _ := x.Margin(7)
	Same(t, "Margin", s.Margin.Text(), "46116860184273879.05")
	cash(t, x, 7, "1000.00")
}

// What was handed in is not kept, and what is answered is nobody else's.
func TestP26_9Memory(t *testing.T) {
	x := opened(t, 7, 8)
	taken(t, x, buys(7, 1, 99, 5), buys(7, 2, 98, 5), sells(8, 1, 102, 5), sells(8, 2, 99, 1))
	before := asked(x)
	names, book, picture := x.Names(), x.Book(1), x.Picture(1)
	Spoil(x.Names(), "XXX")
	b, p := x.Book(1), x.Picture(1)
	Spoil(b.Buys, api.Resting{ID: 77})
	Spoil(b.Sells, api.Resting{ID: 77})
	Spoil(p.Buys, api.Level{Price: 77})
	Spoil(p.Sells, api.Level{Price: 77})
	l := x.Send(buys(7, 3, 97, 1))
	kept := append([]api.Report(nil), l...)
	more := x.Send(cancels(7, 3))
	Spoil(more, api.Report{Ref: 77})
	SameList(t, "what was told", l, kept)
	Spoil(l, api.Report{Ref: 77})
	SameList(t, "Names", names, x.Names())
	keeps(t, api.Book{Config: book.Config, Buys: book.Buys, Sells: book.Sells, High: book.High + 1, Seq: book.Seq + 2}, x.Book(1))
	// The level of 97 came and went.
	picture.Seq += 2
	Same(t, "Picture", picture.Seq, x.Picture(1).Seq)
	SameList(t, "Buys", picture.Buys, x.Picture(1).Buys)
	SameList(t, "Sells", picture.Sells, x.Picture(1).Sells)
	Same(t, "whether more is there", before != asked(x), true)
}

// Two exchanges know nothing of one another.
func TestP26_1Apart(t *testing.T) {
	a, b := opened(t, 7, 8), opened(t, 7, 8)
	before := asked(b)
	taken(t, a, buys(7, 1, 99, 5), sells(8, 1, 99, 5))
	Same(t, "Dial", a.Dial(7, "ANN"), api.OK)
	a.Kill(8)
	Same(t, "what can be asked of the other one", asked(b), before)
	Same(t, "Take", b.Take(7, nil), api.ErrDial)
	taken(t, b, buys(7, 1, 99, 5), sells(8, 1, 99, 5))
}

// An exchange that New has not made answers something, and does not panic.
func TestP26_1Zero(t *testing.T) {
	for _, joined := range []bool{false, true} {
		var x exchange.Exchange
		if joined {
			x.List("ABC", usual(), 1, 10)
			x.Join(7, open, 5, 5)
			x.Join(8, open, 5, 5)
			x.Dial(7, "ANN")
			x.Turn(1, api.PreOpen)
			x.Turn(1, api.Opened)
		}
		x.Send(buys(7, 1, 100, 5))
		x.Send(sells(8, 1, 100, 5))
		x.Pay(7, 5)
		x.Turn(1, 1)
		x.Swap(1, api.List)
		x.Kill(7)
		x.Revive(7)
		x.Take(7, nil)
		x.Tick()
		x.Lines(7)
		x.Settle()
		asked(&x)
	}
}

func TestP26_9NoInstrument(t *testing.T) {
	x := opened(t, 7, 8)
	taken(t, x, buys(7, 1, 100, 5), sells(8, 1, 100, 2))
	for _, i := range []uint32{0, 3, 16, math.MaxUint32} {
		Same(t, "Phase", x.Phase(i), 0)
		keeps(t, x.Book(i), api.Book{})
		Same(t, "Book", x.Book(i).Config, api.Config{})
		p := x.Picture(i)
		Same(t, "Picture", p.Seq, 0)
		Same(t, "Picture", len(p.Buys)+len(p.Sells), 0)
		Same(t, "Bar", x.Bar(i), api.Bar{})
		Same(t, "Page", x.Page(i, 5), "")
		has(t, x, 7, i, 0, "0.00", "0.00")
	}
}

func TestP26_9Asked(t *testing.T) {
	x := opened(t, 7, 8)
	taken(t, x, buys(7, 1, 100, 5), sells(8, 1, 100, 2), buys(8, 2, 98, 7), sells(8, 3, 104, 1))
	SameList(t, "Names", x.Names(), []string{"ABC", "XYZ"})
	Same(t, "Phase", x.Phase(1), api.Opened)
	Same(t, "Phase", x.Phase(2), api.Closed)
	keeps(t, x.Book(1), api.Book{
		Config: usual().Config, High: 4, Seq: 7,
		Buys:  []api.Resting{{ID: 1, Member: 7, Type: api.Limit, Price: 100, Visible: 3}, {ID: 3, Member: 8, Type: api.Limit, Price: 98, Visible: 7}},
		Sells: []api.Resting{{ID: 4, Member: 8, Type: api.Limit, Price: 104, Visible: 1}},
	})
	p := x.Picture(1)
	SameList(t, "Buys", p.Buys, []api.Level{{Price: 100, Qty: 3, Count: 1}, {Price: 98, Qty: 7, Count: 1}})
	SameList(t, "Sells", p.Sells, []api.Level{{Price: 104, Qty: 1, Count: 1}})
	Same(t, "Seq of the picture", p.Seq, 5) // 100 x 5; the trade, 100 x 3; 98 x 7; 104 x 1
	Same(t, "Bar", x.Bar(1), api.Bar{Open: 100, High: 100, Low: 100, Close: 100, Volume: 2, Trades: 1})
	Same(t, "Bar", x.Bar(2), api.Bar{})
	Same(t, "Page", x.Page(1, 1), "BOOK ABC\n  1     1            3    100 |    104            1     1\nTRADES 1 VOLUME 2 TURNOVER 2.00\nOPEN 100 HIGH 100 LOW 100 CLOSE 100 MEAN 100.00\n")
	Same(t, "Page", x.Page(1, 0), "BOOK ABC\nTRADES 1 VOLUME 2 TURNOVER 2.00\nOPEN 100 HIGH 100 LOW 100 CLOSE 100 MEAN 100.00\n")
	Same(t, "Page", x.Page(2, 9), "BOOK XYZ\nTRADES 0 VOLUME 0 TURNOVER 0.00\n")
	Same(t, "Seq", x.Seq(), 8) // two phases, four acks, and a trade, which two are told of
	cash(t, x, 7, "997.98")    // 2.00 and, as the one that rested, 0.02
	cash(t, x, 8, "1001.96")
	Same(t, "Fees", x.Fees().Text(), "0.06")
	has(t, x, 7, 1, 2, "2.00", "0.00")
	has(t, x, 8, 1, -2, "-2.00", "0.00")
	s, there := x.Standing(7, 1)
	Same(t, "Standing", there, true)
	Same(t, "Standing", s, api.Standing{Limits: open, Buys: 3, Count: 1, Bought: 2})
	s, there = x.Standing(8, 1)
	Same(t, "Standing", there, true)
	Same(t, "Standing", s, api.Standing{Limits: open, Buys: 7, Sells: 1, Count: 2, Sold: 2})
}

// Ten levels of each side are published, and no more.
func TestP26_5Depth(t *testing.T) {
	x := bare(t)
	s := usual()
	s.Config.Capacity = 40
	x.List("ABC", s, 1, 10)
	x.Join(7, open, 0, 0)
	turns(t, x, 1, api.PreOpen, api.Opened)
	for n := range 14 {
		taken(t, x, buys(7, uint64(n+1), 99-n, uint64(n+1)), sells(7, uint64(n+101), 101+n, uint64(n+2)))
	}
	p := x.Picture(1)
	Same(t, "Buys", len(p.Buys), 10)
	Same(t, "Sells", len(p.Sells), 10)
	Same(t, "the last one", p.Buys[9], api.Level{Price: 90, Qty: 10, Count: 1})
	Same(t, "the last one", p.Sells[9], api.Level{Price: 110, Qty: 11, Count: 1})
	turns(t, x, 1, api.PreClose) // a call has no levels
	p = x.Picture(1)
	Same(t, "levels in a call", len(p.Buys)+len(p.Sells), 0)
	turns(t, x, 1, api.Closed)
	Same(t, "Buys", len(x.Picture(1).Buys), 10)
}
