package accounts_test

import (
	"testing"

	"bourse/accounts"
	"bourse/api"
	"bourse/num"
	. "bourse/sample"
)

// most is the greatest quantity, last the greatest number of a member or an instrument.
const (
	most = api.MaxQty
	last = 1<<32 - 1
)

func TestP20_1New(t *testing.T) {
	for _, x := range []struct {
		tariff api.Tariff
		why    api.Errno
	}{
		{api.Tariff{}, api.ErrArg}, {api.Tariff{Maker: 1, Taker: 1}, api.ErrArg},
		{api.Tariff{Maker: 2, Taker: 1, By: 1}, api.ErrArg}, {api.Tariff{Maker: 1, Taker: 2, By: 1}, api.ErrArg},
		{api.Tariff{Maker: last, Taker: 0, By: last - 1}, api.ErrArg}, {api.Tariff{Taker: last, By: last - 1}, api.ErrArg},
		{api.Tariff{By: 1}, api.OK}, {api.Tariff{Maker: 1, Taker: 1, By: 1}, api.OK},
		{api.Tariff{Maker: last, Taker: last, By: last}, api.OK}, {api.Tariff{Maker: 3, Taker: 1, By: 1000}, api.OK},
	} {
		l, why := accounts.New(x.tariff)
		Same(t, "New", why, x.why)
		Same(t, "a ledger", l != nil, x.why == api.OK)
		if l != nil {
			SameList(t, "Members", l.Members(), nil)
			SameList(t, "Entries", l.Entries(), nil)
		}
	}
}

func TestP20_1Open(t *testing.T) {
	l := ledger(t, api.Tariff{By: 1})
	for _, x := range []struct {
		member uint32
		why    api.Errno
	}{{0, api.ErrArg}, {9, api.OK}, {last, api.OK}, {9, api.ErrThere}, {1, api.OK}, {0, api.ErrArg}, {last, api.ErrThere}, {1 << 31, api.OK}, {2, api.OK}, {1, api.ErrThere}} {
		Same(t, "Open", l.Open(x.member), x.why)
	}
	SameList(t, "Members", l.Members(), []uint32{1, 2, 9, 1 << 31, last})
	SameList(t, "Entries", l.Entries(), nil)
	has(t, l, cash(9), "0.00")
}

// What is open stays so, and nobody else is, whatever is done with it.
func TestP20_1Members(t *testing.T) {
	l := ledger(t, api.Tariff{Maker: 1, Taker: 1, By: 2}, 2, 1)
	Same(t, "Deposit", l.Deposit(1, num.Cents(5)), api.OK)
	Same(t, "Deposit", l.Deposit(3, num.Cents(5)), api.ErrNobody)
	books(t, l, deal(1, 2, api.Buy, 5, 5), api.OK)
	books(t, l, deal(1, 3, api.Buy, 5, 5), api.ErrNobody)
	Same(t, "Open", l.Open(2), api.ErrThere)
	SameList(t, "Members", l.Members(), []uint32{1, 2})
	has(t, l, cash(2), "0.12") // 25 cents came, 13 went
}

func TestP20_2Deposit(t *testing.T) {
	top := num.Times(1<<32-1, 1<<64-1)
	above, _ := top.Add(num.Cents(1))
	far, _ := num.FromWords([2]uint64{1<<63 - 1, 1<<64 - 1})
	l := ledger(t, api.Tariff{By: 1}, 1, 2)
	for _, x := range []struct {
		member uint32
		m      num.Money
		why    api.Errno
	}{
		{0, num.Cents(1), api.ErrNobody}, {3, num.Cents(1), api.ErrNobody}, {3, num.Cents(0), api.ErrNobody}, {3, above, api.ErrNobody},
		{1, num.Cents(0), api.ErrCents}, {1, num.Cents(-1), api.ErrCents}, {1, top.Neg(), api.ErrCents}, {1, above, api.ErrCents}, {1, far, api.ErrCents}, {1, far.Neg(), api.ErrCents},
		{1, num.Cents(1), api.OK}, {2, top, api.OK}, {1, num.Cents(12345), api.OK}, {2, num.Cents(1), api.OK},
	} {
		Same(t, "Deposit of "+x.m.Text(), l.Deposit(x.member, x.m), x.why)
	}
	has(t, l, cash(1), "123.46")
	has(t, l, cash(2), above.Text())
	has(t, l, cash(3), "0.00")
	has(t, l, cash(0), "0.00")
	has(t, l, house, "0.00")
	has(t, l, outside, "-792281624958175935155394437.72")
	SameList(t, "Entries", l.Entries(), []accounts.Entry{
		entry(t, outside, cash(1), "0.01"), entry(t, outside, cash(2), top.Text()), entry(t, outside, cash(1), "123.45"), entry(t, outside, cash(2), "0.01"),
	})
}

func TestP20_2Withdraw(t *testing.T) {
	top := num.Times(1<<32-1, 1<<64-1)
	above, _ := top.Add(num.Cents(1))
	l := ledger(t, api.Tariff{By: 1}, 1, 2)
	l.Deposit(1, num.Cents(100))
	l.Deposit(2, top)
	l.Deposit(2, top)
	for _, x := range []struct {
		member uint32
		cents  num.Money
		why    api.Errno
	}{
		{0, num.Cents(1), api.ErrNobody}, {3, num.Cents(1), api.ErrNobody}, {3, num.Cents(-1), api.ErrNobody}, {3, above, api.ErrNobody},
		{1, num.Cents(0), api.ErrCents}, {1, num.Cents(-5), api.ErrCents}, {1, above, api.ErrCents}, {2, above, api.ErrCents},
		{1, num.Cents(101), api.ErrFunds}, {1, top, api.ErrFunds},
		{1, num.Cents(1), api.OK}, {1, num.Cents(100), api.ErrFunds}, {1, num.Cents(99), api.OK}, {1, num.Cents(1), api.ErrFunds}, {2, top, api.OK}, {2, top, api.OK}, {2, num.Cents(1), api.ErrFunds},
	} {
		Same(t, "Withdraw of "+x.cents.Text(), l.Withdraw(x.member, x.cents), x.why)
	}
	has(t, l, outside, "0.00")
	SameList(t, "Entries behind the deposits", l.Entries()[3:], []accounts.Entry{
		entry(t, cash(1), outside, "0.01"), entry(t, cash(1), outside, "0.99"), entry(t, cash(2), outside, top.Text()), entry(t, cash(2), outside, top.Text()),
	})
}

// Cash that is below 0 lets nothing out, and what a deal brought may go.
func TestP20_2Owed(t *testing.T) {
	l := ledger(t, api.Tariff{By: 1}, 1, 2)
	books(t, l, deal(1, 2, api.Buy, 100, 3), api.OK)
	has(t, l, cash(1), "-3.00")
	Same(t, "Withdraw", l.Withdraw(1, num.Cents(1)), api.ErrFunds)
	Same(t, "Deposit", l.Deposit(1, num.Cents(301)), api.OK)
	Same(t, "Withdraw", l.Withdraw(1, num.Cents(2)), api.ErrFunds)
	Same(t, "Withdraw", l.Withdraw(1, num.Cents(1)), api.OK)
	Same(t, "Withdraw", l.Withdraw(2, num.Cents(301)), api.ErrFunds)
	Same(t, "Withdraw", l.Withdraw(2, num.Cents(300)), api.OK)
}

// Each deal has the fault, and such as come behind it.
func TestP20_3Refused(t *testing.T) {
	l := ledger(t, api.Tariff{Maker: 1, Taker: 1, By: 1}, 1, 2)
	l.Deposit(1, num.Cents(100))
	books(t, l, deal(1, 2, api.Buy, 1, most), api.OK)
	before := state(l, []uint32{0, 1, 2, 3}, []uint32{0, 7})
	for _, x := range []struct {
		d   api.Deal
		why api.Errno
	}{
		{deal(0, 2, api.Buy, 1, 1), api.ErrNobody}, {deal(1, 0, api.Buy, 1, 1), api.ErrNobody}, {deal(3, 2, 9, -1, 0), api.ErrNobody}, {deal(1, 3, 0, api.Ticks, 0), api.ErrNobody}, {deal(3, 3, api.Buy, 1, 1), api.ErrNobody}, {api.Deal{}, api.ErrNobody},
		{deal(1, 2, 0, 1, 1), api.ErrSide}, {deal(1, 2, 3, -1, 0), api.ErrSide}, {deal(1, 2, -1, 1, 1), api.ErrSide}, {deal(1, 2, 1<<32+1, 1, 1), api.ErrSide}, {deal(2, 2, 0, 1, 1), api.ErrSide},
		{deal(1, 2, api.Buy, -1, 1), api.ErrPrice}, {deal(1, 2, api.Sell, api.Ticks, 0), api.ErrPrice}, {deal(1, 2, api.Buy, 1<<32, most+1), api.ErrPrice}, {deal(1, 2, api.Buy, -1<<63, 1), api.ErrPrice}, {deal(1, 2, api.Buy, 1<<63-1, 1), api.ErrPrice},
		{deal(1, 2, api.Buy, 0, 0), api.ErrQty}, {deal(1, 2, api.Sell, api.Ticks-1, most+1), api.ErrQty}, {deal(1, 2, api.Sell, 5, 1<<63), api.ErrQty}, {deal(1, 2, api.Buy, 5, 1<<64-1), api.ErrQty}, {deal(1, 1, api.Buy, 5, 0), api.ErrQty},
		{deal(1, 2, api.Buy, 5, 1), api.ErrOver}, {deal(1, 2, api.Buy, 0, most), api.ErrOver},
	} {
		books(t, l, x.d, x.why)
		Same(t, "what it keeps", state(l, []uint32{0, 1, 2, 3}, []uint32{0, 7}), before)
	}
}

func TestP20_3Entries(t *testing.T) {
	l := ledger(t, api.Tariff{Maker: 1, Taker: 3, By: 1000}, 1, 2)
	books(t, l, deal(1, 2, api.Buy, 500, 10), api.OK)
	books(t, l, deal(1, 2, api.Sell, 500, 10), api.OK)
	books(t, l, deal(2, 1, api.Sell, 1, 1), api.OK)
	books(t, l, deal(2, 1, api.Buy, 0, 1), api.OK) // of the value 0: no entries
	SameList(t, "Entries", l.Entries(), []accounts.Entry{
		entry(t, cash(1), cash(2), "50.00"), entry(t, cash(1), house, "0.15"), entry(t, cash(2), house, "0.05"),
		entry(t, cash(1), cash(2), "50.00"), entry(t, cash(1), house, "0.05"), entry(t, cash(2), house, "0.15"),
		entry(t, cash(2), cash(1), "0.01"), entry(t, cash(2), house, "0.01"), entry(t, cash(1), house, "0.01"),
	})
	has(t, l, house, "0.42")
	Same(t, "Position", l.Position(1, 7).Qty, 18)
	Same(t, "Position", l.Position(2, 7).Qty, -18)
}

// Of a tariff without one of the rates nothing goes to the house from that one.
func TestP20_3Free(t *testing.T) {
	l := ledger(t, api.Tariff{Taker: 1, By: 1}, 1, 2)
	books(t, l, deal(1, 2, api.Sell, 3, 2), api.OK)
	m := ledger(t, api.Tariff{Maker: 1, By: 1}, 1, 2)
	books(t, m, deal(1, 2, api.Sell, 3, 2), api.OK)
	n := ledger(t, api.Tariff{By: 1}, 1, 2)
	books(t, n, deal(1, 2, api.Sell, 3, 2), api.OK)
	value := entry(t, cash(1), cash(2), "0.06")
	SameList(t, "Entries", l.Entries(), []accounts.Entry{value, entry(t, cash(2), house, "0.06")})
	SameList(t, "Entries", m.Entries(), []accounts.Entry{value, entry(t, cash(1), house, "0.06")})
	SameList(t, "Entries", n.Entries(), []accounts.Entry{value})
}

func TestP20_3Greatest(t *testing.T) {
	l := ledger(t, api.Tariff{Maker: last - 1, Taker: last, By: last}, 1, last)
	books(t, l, in(last, deal(1, last, api.Buy, api.Ticks-1, most)), api.OK)
	// 262143 times 4294967295; what it costs the seller is less by that price, and a whole number.
	has(t, l, cash(1), "-22517912232263.70")
	has(t, l, cash(last), "2621.43")
	has(t, l, house, "22517912229642.27")
	Same(t, "Position", l.Position(1, last), position(t, most, "11258956116131.85", "0.00"))
	Same(t, "Position", l.Position(last, last), position(t, -most, "-11258956116131.85", "0.00"))
}

// A position may be as great as MaxQty, and no greater, on either side.
func TestP20_3Over(t *testing.T) {
	l := ledger(t, api.Tariff{By: 1}, 1, 2, 3)
	books(t, l, deal(1, 2, api.Buy, 1, most-1), api.OK)
	books(t, l, deal(1, 3, api.Buy, 1, 2), api.ErrOver) // the buyer's
	books(t, l, deal(3, 2, api.Buy, 1, 2), api.ErrOver) // the seller's
	books(t, l, deal(1, 3, api.Buy, 1, 1), api.OK)
	books(t, l, deal(3, 2, api.Buy, 1, 1), api.OK)
	books(t, l, deal(1, 3, api.Buy, 1, 1), api.ErrOver)
	books(t, l, deal(3, 2, api.Buy, 1, 1), api.ErrOver)
	Same(t, "Position", l.Position(1, 7).Qty, most)
	Same(t, "Position", l.Position(2, 7).Qty, -most)
	Same(t, "Position", l.Position(3, 7), position(t, 0, "0.00", "0.00"))
	books(t, l, in(8, deal(1, 2, api.Buy, 1, most)), api.OK) // another instrument's are others
	books(t, l, deal(2, 1, api.Buy, 1, most), api.OK)        // to 0 at once
	books(t, l, deal(1, 2, api.Buy, 1, 5), api.OK)
	books(t, l, deal(2, 1, api.Buy, 1, most), api.OK) // through 0
	Same(t, "Position", l.Position(1, 7).Qty, 5-most)
	books(t, l, deal(2, 1, api.Buy, 1, 6), api.ErrOver)
	books(t, l, deal(2, 1, api.Buy, 1, 5), api.OK)
}

// A member that deals with itself buys first: what it has then may be too great, though it sells it at once.
func TestP20_3OneMember(t *testing.T) {
	l := ledger(t, api.Tariff{Maker: 1, Taker: 2, By: 100}, 1, 2)
	books(t, l, deal(1, 1, api.Sell, 100, 4), api.OK)
	SameList(t, "Entries", l.Entries(), []accounts.Entry{
		entry(t, cash(1), cash(1), "4.00"), entry(t, cash(1), house, "0.04"), entry(t, cash(1), house, "0.08"),
	})
	has(t, l, cash(1), "-0.12")
	Same(t, "Position", l.Position(1, 7), position(t, 0, "0.00", "0.00"))
	SameList(t, "Instruments", l.Instruments(1), []uint32{7})

	books(t, l, deal(1, 2, api.Buy, 100, 5), api.OK)
	books(t, l, deal(1, 1, api.Buy, 400, 5), api.OK)                        // 10 for 25.00; 5 of them for 20.00
	Same(t, "Position", l.Position(1, 7), position(t, 5, "12.50", "7.50"))  // what it gained, it paid
	books(t, l, deal(2, 2, api.Buy, 50, 2), api.OK)                         // -5 for -5.00: 2 for 1.00, then 2 again
	Same(t, "Position", l.Position(2, 7), position(t, -5, "-4.00", "1.00")) // its gain stands in its cost

	books(t, l, deal(1, 1, api.Buy, 1, most-5), api.OK)
	books(t, l, deal(1, 1, api.Buy, 1, most-4), api.ErrOver)
	books(t, l, deal(2, 2, api.Buy, 1, most), api.OK)
	Same(t, "Position", l.Position(2, 7).Qty, -5)
	books(t, l, deal(2, 1, api.Buy, 1, 5), api.OK)
	books(t, l, deal(2, 1, api.Buy, 1, most), api.OK)
	books(t, l, deal(1, 1, api.Buy, 1, most), api.OK) // from -MaxQty to 0, and back
	Same(t, "Position", l.Position(1, 7).Qty, -most)
	books(t, l, deal(2, 2, api.Buy, 1, 1), api.ErrOver)
}

// The part of the cost goes towards 0, on either side, so that what is left bears the odd cent.
func TestP20_3Rounded(t *testing.T) {
	l := ledger(t, api.Tariff{By: 1}, 1, 2)
	books(t, l, deal(1, 2, api.Buy, 1, 1), api.OK)
	books(t, l, deal(1, 2, api.Buy, 0, 2), api.OK) // 3 for a cent
	for _, x := range []struct {
		qty        int64
		cost, gain string
	}{{2, "0.01", "0.05"}, {1, "0.01", "0.10"}, {0, "0.00", "0.14"}} {
		books(t, l, deal(2, 1, api.Buy, 5, 1), api.OK)
		Same(t, "Position", l.Position(1, 7), position(t, x.qty, x.cost, x.gain))
	}
	Same(t, "Position", l.Position(2, 7), position(t, 0, "0.00", "-0.14"))

	books(t, l, deal(2, 1, api.Buy, 10, 1), api.OK)
	books(t, l, deal(2, 1, api.Buy, 0, 2), api.OK) // 1 owes 3 for 10 cents
	books(t, l, deal(1, 2, api.Buy, 1, 2), api.OK) // 2 of them: 6 of the 10
	Same(t, "Position", l.Position(1, 7), position(t, -1, "-0.04", "0.18"))
	Same(t, "Position", l.Position(2, 7), position(t, 1, "0.04", "-0.18"))
}

// What closes a position and has something left opens one on the other side, at the price of this deal.
func TestP20_3Through(t *testing.T) {
	l := ledger(t, api.Tariff{By: 1}, 1, 2, 3)
	books(t, l, deal(1, 2, api.Buy, 100, 3), api.OK)
	books(t, l, deal(3, 1, api.Buy, 7, 10), api.OK)
	Same(t, "the seller's", l.Position(1, 7), position(t, -7, "-0.49", "-2.79"))
	books(t, l, deal(2, 3, api.Buy, 11, 8), api.OK)
	Same(t, "the buyer's", l.Position(2, 7), position(t, 5, "0.55", "2.67"))
	Same(t, "the one's that took", l.Position(3, 7), position(t, 2, "0.14", "0.32"))
}

func TestP20_4Balance(t *testing.T) {
	l := ledger(t, api.Tariff{Maker: 1, Taker: 1, By: 10}, 1, 2)
	l.Deposit(1, num.Cents(5000))
	books(t, l, deal(1, 2, api.Buy, 100, 10), api.OK)
	has(t, l, cash(1), "39.00")
	has(t, l, cash(2), "9.00")
	has(t, l, house, "2.00")
	has(t, l, outside, "-50.00")
	for _, a := range []api.Account{
		{}, cash(0), cash(3), cash(last), {Member: 1}, {Member: 1, Kind: api.House}, {Member: 1, Kind: api.Outside}, {Member: 2, Kind: 4},
		{Kind: 4}, {Kind: -1}, {Member: 1, Kind: api.Cash - 1<<32}, {Kind: 1<<63 - 1}, {Kind: -1 << 63},
	} {
		has(t, l, a, "0.00")
	}
	SameList(t, "Members", l.Members(), []uint32{1, 2}) // to ask is not to open
}

func TestP20_4Position(t *testing.T) {
	l := ledger(t, api.Tariff{By: 1}, 1, 2, 3)
	books(t, l, in(9, deal(1, 2, api.Buy, 100, 10)), api.OK)
	books(t, l, in(0, deal(1, 3, api.Buy, 50, 2)), api.OK)
	books(t, l, in(last, deal(2, 1, api.Buy, 0, 2)), api.OK)
	books(t, l, in(1, deal(3, 3, api.Buy, 1, 2)), api.OK)
	books(t, l, in(9, deal(2, 1, api.Buy, 90, 10)), api.OK)
	books(t, l, in(5, deal(2, 1, api.Buy, 90, 0)), api.ErrQty)
	books(t, l, in(5, deal(2, 4, api.Buy, 90, 1)), api.ErrNobody)
	SameList(t, "Instruments", l.Instruments(1), []uint32{0, 9, last})
	SameList(t, "Instruments", l.Instruments(2), []uint32{9, last})
	SameList(t, "Instruments", l.Instruments(3), []uint32{0, 1})
	for _, m := range []uint32{0, 4, 9, last} {
		SameList(t, "Instruments", l.Instruments(m), nil)
	}
	Same(t, "Position", l.Position(1, 9), position(t, 0, "0.00", "-1.00"))
	Same(t, "Position", l.Position(2, 9), position(t, 0, "0.00", "1.00"))
	Same(t, "Position", l.Position(3, 0), position(t, -2, "-1.00", "0.00"))
	Same(t, "Position", l.Position(1, last), position(t, -2, "0.00", "0.00"))
	for _, x := range [][2]uint32{{1, 1}, {3, 9}, {0, 0}, {9, 1}, {4, 9}, {2, 0}, {last, last}} {
		Same(t, "Position", l.Position(x[0], x[1]), accounts.Position{})
	}
	SameList(t, "Instruments", l.Instruments(1), []uint32{0, 9, last}) // to ask is not to book
	SameList(t, "Instruments", l.Instruments(3), []uint32{0, 1})
	SameList(t, "Instruments", l.Instruments(4), nil)
}

func TestP20_5Mark(t *testing.T) {
	l := ledger(t, api.Tariff{Maker: 1, Taker: 1, By: 1}, 1, 2, 3)
	books(t, l, deal(1, 2, api.Buy, 500, 10), api.OK)
	books(t, l, in(8, deal(2, 1, api.Buy, api.Ticks-1, most)), api.OK)
	for _, x := range []struct {
		member, instrument uint32
		price              int
		worth              string
		why                api.Errno
	}{
		{1, 7, 500, "0.00", api.OK}, {1, 7, 501, "0.10", api.OK}, {1, 7, 0, "-50.00", api.OK}, {1, 7, api.Ticks - 1, "26164.30", api.OK},
		{2, 7, 500, "0.00", api.OK}, {2, 7, 501, "-0.10", api.OK}, {2, 7, 0, "50.00", api.OK}, {2, 7, api.Ticks - 1, "-26164.30", api.OK},
		{1, 8, 0, "11258956116131.85", api.OK}, {2, 8, 0, "-11258956116131.85", api.OK}, {2, 8, api.Ticks - 1, "0.00", api.OK}, {2, 8, api.Ticks - 2, "-42949672.95", api.OK},
		{3, 7, 9, "0.00", api.OK}, {1, 9, 9, "0.00", api.OK}, {0, 0, 0, "0.00", api.OK}, {last, 7, api.Ticks - 1, "0.00", api.OK},
		{1, 7, -1, "0.00", api.ErrPrice}, {1, 7, api.Ticks, "0.00", api.ErrPrice}, {1, 7, 1 << 32, "0.00", api.ErrPrice}, {9, 9, -1 << 63, "0.00", api.ErrPrice}, {3, 7, 1<<63 - 1, "0.00", api.ErrPrice},
	} {
		worth, why := l.Mark(x.member, x.instrument, x.price)
		Same(t, "Mark", why, x.why)
		Same(t, "Mark", worth.Text(), x.worth)
	}
	books(t, l, deal(2, 1, api.Buy, 600, 10), api.OK)
	worth, _ := l.Mark(1, 7, 100) // what was gained is no part of it
	Same(t, "Mark", worth.Text(), "0.00")
}

func TestP20_5Examples(t *testing.T) {
	l := ledger(t, api.Tariff{Maker: 1, Taker: 3, By: 1000}, 1, 2)
	Same(t, "Deposit", l.Deposit(1, num.Cents(10000)), api.OK)
	has(t, l, cash(1), "100.00")
	has(t, l, outside, "-100.00")
	Same(t, "Withdraw", l.Withdraw(1, num.Cents(10001)), api.ErrFunds)
	Same(t, "Deposit", l.Deposit(3, num.Cents(1)), api.ErrNobody)
	Same(t, "Deposit", l.Deposit(1, num.Cents(0)), api.ErrCents)
	books(t, l, deal(1, 2, api.Buy, 500, 10), api.OK)
	Same(t, "1", l.Position(1, 7), position(t, 10, "50.00", "0.00"))
	Same(t, "2", l.Position(2, 7), position(t, -10, "-50.00", "0.00"))
	books(t, l, deal(2, 1, api.Buy, 600, 4), api.OK)
	Same(t, "1", l.Position(1, 7), position(t, 6, "30.00", "4.00"))
	Same(t, "2", l.Position(2, 7), position(t, -6, "-30.00", "-4.00"))
	books(t, l, deal(2, 1, api.Sell, 100, 9), api.OK)
	Same(t, "1", l.Position(1, 7), position(t, -3, "-3.00", "-20.00"))
	Same(t, "2", l.Position(2, 7), position(t, 3, "3.00", "20.00"))
	worth, why := l.Mark(1, 7, 100)
	Same(t, "Mark", worth.Text(), "0.00")
	Same(t, "Mark", why, api.OK)
}

// No list that was answered is the ledger's own, nor another answer's.
func TestP20_4Memory(t *testing.T) {
	l := ledger(t, api.Tariff{Maker: 1, Taker: 1, By: 2}, 1, 2, 3)
	for i := range 9 {
		books(t, l, in(uint32(i), deal(1, 2, api.Buy, 10, 2)), api.OK)
		before := state(l, []uint32{1, 2, 3}, []uint32{0, 1, 2})
		kept, keptMembers, keptInstruments := l.Entries(), l.Members(), l.Instruments(1)
		Spoil(l.Entries(), accounts.Entry{From: cash(9)})
		Spoil(l.Members(), 99)
		Spoil(l.Instruments(1), 99)
		SameList(t, "Entries", kept, l.Entries())
		SameList(t, "Members", keptMembers, l.Members())
		SameList(t, "Instruments", keptInstruments, l.Instruments(1))
		Same(t, "what it keeps", state(l, []uint32{1, 2, 3}, []uint32{0, 1, 2}), before)
		Spoil(kept, accounts.Entry{From: cash(9)})
		Same(t, "Deposit", l.Deposit(1, num.Cents(3)), api.OK)
		Same(t, "the last entry", l.Entries()[len(kept)], entry(t, outside, cash(1), "0.03"))
	}
}

// Two ledgers know nothing of one another.
func TestP20_1Apart(t *testing.T) {
	tariff := api.Tariff{Maker: 1, Taker: 1, By: 2}
	a, b := ledger(t, tariff, 1, 2), ledger(t, tariff)
	a.Deposit(1, num.Cents(50))
	books(t, a, deal(1, 2, api.Buy, 10, 2), api.OK)
	Same(t, "Deposit", b.Deposit(1, num.Cents(5)), api.ErrNobody)
	Same(t, "what the other one keeps", state(b, []uint32{1, 2}, []uint32{7}), state(ledger(t, tariff), []uint32{1, 2}, []uint32{7}))
}

// A ledger that New has not made answers something, and does not panic.
func TestP20_1Zero(t *testing.T) {
	for _, opened := range []bool{false, true} {
		var l accounts.Ledger
		l.Balance(cash(1))
		if opened {
			l.Open(0)
			l.Open(1)
			l.Open(2)
		}
		l.Deposit(1, num.Cents(5))
		l.Withdraw(1, num.Cents(5))
		l.Book(deal(1, 2, api.Buy, 5, 5))
		l.Book(deal(1, 1, api.Sell, 5, 5))
		l.Mark(1, 7, 5)
		state(&l, []uint32{0, 1}, []uint32{7})
	}
}
