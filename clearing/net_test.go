package clearing_test

import (
	"fmt"
	"math"
	"math/big"
	"slices"
	"testing"

	"bourse/api"
	"bourse/clearing"
	"bourse/num"
	. "bourse/sample"
)

func net(t *testing.T, member, instrument uint32, bought, sold uint64, pay string) clearing.Net {
	t.Helper()
	return clearing.Net{Member: member, Instrument: instrument, Bought: bought, Sold: sold, Pay: money(t, pay)}
}

func TestP22_1Example(t *testing.T) {
	l, why := clearing.Netted([]api.Deal{deal(1, 2, 500, 10), {Instrument: 7, Buyer: 2, Seller: 1, Taker: api.Sell, Price: 600, Qty: 4}})
	Same(t, "Netted", why, api.OK)
	SameList(t, "Netted", l, []clearing.Net{net(t, 1, 7, 10, 4, "26.00"), net(t, 2, 7, 4, 10, "-26.00")})
	d, why := clearing.Dues(l)
	Same(t, "Dues", why, api.OK)
	SameList(t, "Dues", d, []clearing.Due{{Member: 1, Pay: num.Cents(2600)}, {Member: 2, Pay: num.Cents(-2600)}})
}

// Members rise, and of one member the instruments, whatever order the deals have.
func TestP22_1Order(t *testing.T) {
	l, why := clearing.Netted([]api.Deal{
		in(9, deal(last, 3, 2, 5)), in(0, deal(3, 1, 10, 1)), in(last, deal(1, last, 0, most)), in(9, deal(3, last, 3, 4)), in(1<<31, deal(3, 1, 1, 1)),
	})
	Same(t, "Netted", why, api.OK)
	SameList(t, "Netted", l, []clearing.Net{
		net(t, 1, 0, 0, 1, "-0.10"), net(t, 1, 1<<31, 0, 1, "-0.01"), net(t, 1, last, most, 0, "0.00"),
		net(t, 3, 0, 1, 0, "0.10"), net(t, 3, 9, 4, 5, "0.02"), net(t, 3, 1<<31, 1, 0, "0.01"),
		net(t, last, 9, 5, 4, "-0.02"), net(t, last, last, 0, most, "0.00"),
	})
	l, why = clearing.Netted(nil)
	Same(t, "Netted of none", why, api.OK)
	SameList(t, "Netted of none", l, nil)
}

func TestP22_1Oneself(t *testing.T) {
	l, why := clearing.Netted([]api.Deal{deal(4, 4, 500, 10), deal(4, 4, 3, 2), deal(4, 5, 1, 1)})
	Same(t, "Netted", why, api.OK)
	SameList(t, "Netted", l, []clearing.Net{net(t, 4, 7, 13, 12, "0.01"), net(t, 5, 7, 0, 1, "-0.01")})
}

// Each deal has the fault, and such as come behind it; of a list the first deal with one is told.
func TestP22_1Refused(t *testing.T) {
	bad := []struct {
		d   api.Deal
		why api.Errno
	}{
		{deal(0, 2, 1, 1), api.ErrNobody}, {deal(1, 0, 1, 1), api.ErrNobody}, {deal(0, 0, -1, 0), api.ErrNobody}, {deal(1, 0, api.Ticks, 0), api.ErrNobody}, {api.Deal{}, api.ErrNobody},
		{deal(1, 2, -1, 1), api.ErrPrice}, {deal(1, 2, api.Ticks, 1), api.ErrPrice}, {deal(1, 2, -1, 0), api.ErrPrice}, {deal(1, 1, math.MinInt, most+1), api.ErrPrice}, {deal(1, 2, math.MaxInt, 1), api.ErrPrice}, {deal(1, 2, 1<<32, 1), api.ErrPrice},
		{deal(1, 2, 0, 0), api.ErrQty}, {deal(1, 2, api.Ticks-1, most+1), api.ErrQty}, {deal(1, 2, 1, top), api.ErrQty}, {deal(1, 2, 1, 1<<63), api.ErrQty}, {deal(2, 2, 1, 1<<32+1), api.ErrQty},
	}
	good := deal(1, 2, 5, 5)
	for i, x := range bad {
		next := bad[(i+7)%len(bad)].d
		for _, l := range [][]api.Deal{{x.d}, {good, x.d}, {x.d, good}, {good, good, x.d, next}} {
			nets, why := clearing.Netted(l)
			Same(t, "Netted", why, x.why)
			SameList(t, "Netted", nets, nil)
		}
	}
	for _, taker := range []int{0, 1, 2, 3, -1, math.MaxInt} { // it plays no part
		d := good
		d.Taker = taker
		l, why := clearing.Netted([]api.Deal{d})
		Same(t, "Netted", why, api.OK)
		SameList(t, "Netted", l, []clearing.Net{net(t, 1, 7, 5, 0, "0.25"), net(t, 2, 7, 0, 5, "-0.25")})
	}
}

func TestP22_1Greatest(t *testing.T) {
	l, why := clearing.Netted(slices.Repeat([]api.Deal{deal(1, last, api.Ticks-1, most)}, 1000))
	Same(t, "Netted", why, api.OK)
	n := 1000 * uint64(most)
	pay := num.Times(api.Ticks-1, n).Text()
	SameList(t, "Netted", l, []clearing.Net{net(t, 1, 7, n, 0, pay), net(t, last, 7, 0, n, "-"+pay)})
}

func amount(t *testing.T, high, low uint64) num.Money {
	t.Helper()
	m, why := num.FromWords([2]uint64{high, low})
	Same(t, "FromWords", why, api.OK)
	return m
}

// A sum is taken in the order of the Nets: it may be no amount on the way, though it would be one in the end.
func TestP22_2Over(t *testing.T) {
	far := amount(t, 1<<63-1, top)
	one := num.Cents(1)
	pay := func(member uint32, m num.Money) clearing.Net {
		return clearing.Net{Member: member, Instrument: 7, Pay: m}
	}
	for _, x := range []struct {
		l    []clearing.Net
		why  api.Errno
		want []clearing.Due
	}{
		{nil, api.OK, nil},
		{[]clearing.Net{pay(1, far)}, api.OK, []clearing.Due{{Member: 1, Pay: far}}},
		{[]clearing.Net{pay(1, far), pay(1, one)}, api.ErrOver, nil},
		{[]clearing.Net{pay(1, far), pay(1, one), pay(1, one.Neg())}, api.ErrOver, nil},
		{[]clearing.Net{pay(1, far), pay(1, one.Neg()), pay(1, one)}, api.OK, []clearing.Due{{Member: 1, Pay: far}}},
		{[]clearing.Net{pay(1, far.Neg()), pay(1, one.Neg())}, api.ErrOver, nil},
		{[]clearing.Net{pay(1, far.Neg()), pay(2, one.Neg()), pay(1, far)}, api.OK, []clearing.Due{{Member: 1}, {Member: 2, Pay: one.Neg()}}},
		{[]clearing.Net{pay(2, one), pay(1, far), pay(2, far)}, api.ErrOver, nil},
		{[]clearing.Net{pay(2, far), pay(1, far)}, api.OK, []clearing.Due{{Member: 1, Pay: far}, {Member: 2, Pay: far}}},
	} {
		d, why := clearing.Dues(x.l)
		Same(t, "Dues", why, x.why)
		SameList(t, "Dues", d, x.want)
	}
}

// Nets may be any: twice of one instrument, of the member 0, without a quantity, in any order.
func TestP22_2AnyNets(t *testing.T) {
	d, why := clearing.Dues([]clearing.Net{
		net(t, last, 1, top, top, "-5.00"), net(t, 0, 7, 0, 0, "1.00"), net(t, 3, 7, 1, 0, "0.00"), net(t, last, 1, 0, 0, "2.00"), net(t, 2, 9, 0, 9, "0.07"), net(t, 0, 7, 3, 0, "0.50"),
	})
	Same(t, "Dues", why, api.OK)
	SameList(t, "Dues", d, []clearing.Due{{Pay: num.Cents(150)}, {Member: 2, Pay: num.Cents(7)}, {Member: 3}, {Member: last, Pay: num.Cents(-300)}})
}

func wildDeal(x *Mixer) api.Deal {
	d := api.Deal{
		Instrument: Pick(x, things()...), Buyer: 1 + uint32(x.Below(6)), Seller: 1 + uint32(x.Below(6)), Taker: x.Below(4),
		Price: x.Below(Pick(x, 30, 3000, api.Ticks)), Qty: 1 + x.Next()%Pick[uint64](x, 12, 5000, most),
	}
	if x.Below(9) == 0 {
		d.Seller = last
	}
	return d
}

// What deals come to is found again by going through all of them for each Net.
func TestP22_8Netting(t *testing.T) {
	for seed := range 30 {
		x := Mixer(seed)
		var deals []api.Deal
		for range x.Below(120) {
			deals = append(deals, wildDeal(&x))
		}
		given := slices.Clone(deals)
		nets, why := clearing.Netted(deals)
		Same(t, "Netted", why, api.OK)
		SameList(t, "the deals", deals, given)
		var want, got []string
		for _, m := range owners() {
			for _, i := range things() {
				if s := netOf(m, i, deals); s != "" {
					want = append(want, s)
				}
			}
		}
		balance := map[uint32][3]*big.Int{}
		for _, n := range nets {
			got = append(got, fmt.Sprint(n.Member, n.Instrument, n.Bought, n.Sold, n.Pay.Text()))
			b, ok := balance[n.Instrument]
			if !ok {
				b = [3]*big.Int{new(big.Int), new(big.Int), new(big.Int)}
			}
			balance[n.Instrument] = [3]*big.Int{sum(b[0], number(n.Bought)), sum(b[1], number(n.Sold)), sum(b[2], whole(n.Pay))}
		}
		SameList(t, "Netted", got, want)
		for _, b := range balance {
			Same(t, "bought and sold", b[0].Cmp(b[1]), 0)
			Same(t, "all Pays", b[2].Sign(), 0)
		}
		dues(t, nets)
	}
}

// netOf is the Net of a member and an instrument as a text, empty if there is none.
func netOf(member, instrument uint32, deals []api.Deal) string {
	bought, sold, pay, there := new(big.Int), new(big.Int), new(big.Int), false
	for _, d := range deals {
		if d.Instrument != instrument {
			continue
		}
		if d.Buyer == member {
			bought, pay, there = sum(bought, number(d.Qty)), sum(pay, value(d)), true
		}
		if d.Seller == member {
			sold, pay, there = sum(sold, number(d.Qty)), sum(pay, minus(value(d))), true
		}
	}
	if !there {
		return ""
	}
	return fmt.Sprint(member, instrument, bought, sold, decimal(pay))
}

// dues holds the Dues of Nets against all their Pays.
func dues(t *testing.T, nets []clearing.Net) {
	t.Helper()
	l, why := clearing.Dues(nets)
	Same(t, "Dues", why, api.OK)
	all := new(big.Int)
	for i, d := range l {
		if i > 0 && l[i-1].Member >= d.Member {
			t.Fatalf("%d stands behind %d", d.Member, l[i-1].Member)
		}
		want, some := new(big.Int), false
		for _, n := range nets {
			if n.Member == d.Member {
				want, some = sum(want, whole(n.Pay)), true
			}
		}
		Same(t, "one of the members", some, true)
		Same(t, "a due", d.Pay.Text(), decimal(want))
		all = sum(all, want)
	}
	for _, n := range nets {
		Same(t, "a member's due", slices.ContainsFunc(l, func(d clearing.Due) bool { return d.Member == n.Member }), true)
	}
	Same(t, "all Dues", all.Sign(), 0)
}
