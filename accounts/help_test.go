package accounts_test

import (
	"fmt"
	"math/big"
	"slices"
	"strings"
	"testing"

	"bourse/accounts"
	"bourse/api"
	"bourse/num"
	. "bourse/sample"
)

// The tests hold a ledger against a model that keeps nothing but what was done, and finds each answer from its beginning, in whole numbers of math/big.

var (
	house   = api.Account{Kind: api.House}
	outside = api.Account{Kind: api.Outside}
)

func cash(member uint32) api.Account { return api.Account{Member: member, Kind: api.Cash} }

func ledger(t *testing.T, tariff api.Tariff, members ...uint32) *accounts.Ledger {
	t.Helper()
	l, why := accounts.New(tariff)
	if l == nil || why != api.OK {
		t.Fatalf("New(%v): %v", tariff, why)
	}
	for _, m := range members {
		Same(t, "Open", l.Open(m), api.OK)
	}
	return l
}

// deal is one of the instrument 7.
func deal(buyer, seller uint32, taker, price int, qty uint64) api.Deal {
	return api.Deal{Instrument: 7, Buyer: buyer, Seller: seller, Taker: taker, Price: price, Qty: qty}
}

// in is the deal in another instrument.
func in(instrument uint32, d api.Deal) api.Deal {
	d.Instrument = instrument
	return d
}

func money(t *testing.T, s string) num.Money {
	t.Helper()
	m, why := num.ParseMoney(s)
	Same(t, s, why, api.OK)
	return m
}

func entry(t *testing.T, from, to api.Account, amount string) accounts.Entry {
	t.Helper()
	return accounts.Entry{From: from, To: to, Amount: money(t, amount)}
}

func position(t *testing.T, qty int64, cost, gain string) accounts.Position {
	t.Helper()
	return accounts.Position{Qty: qty, Cost: money(t, cost), Gain: money(t, gain)}
}

func books(t *testing.T, l *accounts.Ledger, d api.Deal, want api.Errno) {
	t.Helper()
	if why := l.Book(d); why != want {
		t.Fatalf("Book(%v): %v, not %v", d, why, want)
	}
}

func has(t *testing.T, l *accounts.Ledger, a api.Account, want string) {
	t.Helper()
	Same(t, "Balance", l.Balance(a).Text(), want)
}

// whole is an amount's cents.
func whole(m num.Money) *big.Int {
	n, ok := new(big.Int).SetString(strings.Replace(m.Text(), ".", "", 1), 10)
	if !ok {
		panic(m.Text())
	}
	return n
}

func count(n uint64) *big.Int { return new(big.Int).SetUint64(n) }

func product(a, b *big.Int) *big.Int { return new(big.Int).Mul(a, b) }

func sum(l ...*big.Int) *big.Int {
	out := new(big.Int)
	for _, n := range l {
		out.Add(out, n)
	}
	return out
}

func minus(n *big.Int) *big.Int { return new(big.Int).Neg(n) }

// towards is n times a divided by b, towards 0.
func towards(n, a, b *big.Int) *big.Int { return new(big.Int).Quo(product(n, a), b) }

func value(d api.Deal) *big.Int { return product(big.NewInt(int64(d.Price)), count(d.Qty)) }

// flow is an entry of the model.
type flow struct {
	from, to api.Account
	cents    *big.Int
}

// holding is a position of the model.
type holding struct{ qty, cost, gain *big.Int }

type model struct {
	tariff  api.Tariff
	members []uint32
	flows   []flow
	deals   []api.Deal
}

func (m *model) open(member uint32) api.Errno {
	if member == 0 {
		return api.ErrArg
	}
	if slices.Contains(m.members, member) {
		return api.ErrThere
	}
	m.members = append(m.members, member)
	slices.Sort(m.members)
	return api.OK
}

// pays is a deposit (in) or a withdrawal.
func (m *model) pays(member uint32, cents *big.Int, in bool) api.Errno {
	most := product(count(1<<32-1), count(1<<64-1))
	switch {
	case !slices.Contains(m.members, member):
		return api.ErrNobody
	case cents.Sign() <= 0 || cents.Cmp(most) > 0:
		return api.ErrCents
	case in:
		m.flows = append(m.flows, flow{outside, cash(member), cents})
	case m.balance(cash(member)).Cmp(cents) < 0:
		return api.ErrFunds
	default:
		m.flows = append(m.flows, flow{cash(member), outside, cents})
	}
	return api.OK
}

func (m *model) book(d api.Deal) api.Errno {
	switch {
	case !slices.Contains(m.members, d.Buyer), !slices.Contains(m.members, d.Seller):
		return api.ErrNobody
	case d.Taker != api.Buy && d.Taker != api.Sell:
		return api.ErrSide
	case d.Price < 0 || d.Price > api.Ticks-1:
		return api.ErrPrice
	case d.Qty == 0 || d.Qty > api.MaxQty:
		return api.ErrQty
	}
	most := count(api.MaxQty)
	bought := sum(m.position(d.Buyer, d.Instrument).qty, count(d.Qty))
	sold := sum(m.position(d.Seller, d.Instrument).qty, minus(count(d.Qty)))
	if d.Buyer == d.Seller {
		sold = sum(bought, minus(count(d.Qty)))
	}
	if bought.CmpAbs(most) > 0 || sold.CmpAbs(most) > 0 {
		return api.ErrOver
	}
	rates := map[int]uint32{api.Buy: m.tariff.Maker, api.Sell: m.tariff.Maker}
	rates[d.Taker] = m.tariff.Taker
	m.flow(cash(d.Buyer), cash(d.Seller), value(d))
	m.flow(cash(d.Buyer), house, m.fee(d, rates[api.Buy]))
	m.flow(cash(d.Seller), house, m.fee(d, rates[api.Sell]))
	m.deals = append(m.deals, d)
	return api.OK
}

// fee is the least whole number of cents that is not below the exact part.
func (m *model) fee(d api.Deal, rate uint32) *big.Int {
	by := count(uint64(m.tariff.By))
	n := product(value(d), count(uint64(rate)))
	q, r := new(big.Int).QuoRem(n, by, new(big.Int))
	if r.Sign() > 0 {
		return sum(q, count(1))
	}
	return q
}

func (m *model) flow(from, to api.Account, cents *big.Int) {
	if cents.Sign() > 0 {
		m.flows = append(m.flows, flow{from, to, cents})
	}
}

func (m *model) balance(a api.Account) *big.Int {
	out := new(big.Int)
	for _, f := range m.flows {
		if f.from == a {
			out.Sub(out, f.cents)
		}
		if f.to == a {
			out.Add(out, f.cents)
		}
	}
	return out
}

func (m *model) position(member, instrument uint32) holding {
	h := holding{new(big.Int), new(big.Int), new(big.Int)}
	for _, d := range m.deals {
		if d.Instrument != instrument {
			continue
		}
		if d.Buyer == member {
			h = h.goes(count(d.Qty), minus(value(d)))
		}
		if d.Seller == member {
			h = h.goes(minus(count(d.Qty)), value(d))
		}
	}
	return h
}

// goes closes as much as there is on the other side, and opens the rest.
func (h holding) goes(d, f *big.Int) holding {
	n, had := new(big.Int).Abs(d), new(big.Int).Abs(h.qty)
	left, money := d, f
	if h.qty.Sign()*d.Sign() < 0 {
		c := n
		if had.Cmp(n) < 0 {
			c = had
		}
		part, flow := towards(h.cost, c, had), towards(f, c, n)
		gone := product(c, big.NewInt(int64(d.Sign())))
		h = holding{sum(h.qty, gone), sum(h.cost, minus(part)), sum(h.gain, flow, minus(part))}
		left, money = sum(d, minus(gone)), sum(f, minus(flow))
	}
	return holding{sum(h.qty, left), sum(h.cost, minus(money)), h.gain}
}

func (m *model) instruments(member uint32) []uint32 {
	var out []uint32
	for _, d := range m.deals {
		if d.Buyer == member || d.Seller == member {
			out = append(out, d.Instrument)
		}
	}
	slices.Sort(out)
	return slices.Compact(out)
}

func (m *model) mark(member, instrument uint32, price int) (*big.Int, api.Errno) {
	if price < 0 || price >= api.Ticks {
		return new(big.Int), api.ErrPrice
	}
	h := m.position(member, instrument)
	return sum(product(h.qty, big.NewInt(int64(price))), minus(h.cost)), api.OK
}

// state is all that a ledger can be asked of, as one text, of these members and instruments.
func state(l *accounts.Ledger, members, instruments []uint32) string {
	var b strings.Builder
	fmt.Fprintln(&b, l.Members(), l.Balance(house).Text(), l.Balance(outside).Text())
	for _, e := range l.Entries() {
		fmt.Fprintln(&b, e.From, e.To, e.Amount.Text())
	}
	for _, m := range members {
		fmt.Fprintln(&b, m, l.Balance(cash(m)).Text(), l.Instruments(m))
		for _, i := range instruments {
			p := l.Position(m, i)
			fmt.Fprintln(&b, i, p.Qty, p.Cost.Text(), p.Gain.Text())
		}
	}
	return b.String()
}

// state is what the model answers to the same.
func (m *model) state(members, instruments []uint32) string {
	var b strings.Builder
	fmt.Fprintln(&b, m.members, decimal(m.balance(house)), decimal(m.balance(outside)))
	for _, f := range m.flows {
		fmt.Fprintln(&b, f.from, f.to, decimal(f.cents))
	}
	for _, n := range members {
		fmt.Fprintln(&b, n, decimal(m.balance(cash(n))), m.instruments(n))
		for _, i := range instruments {
			h := m.position(n, i)
			fmt.Fprintln(&b, i, h.qty, decimal(h.cost), decimal(h.gain))
		}
	}
	return b.String()
}

// decimal is an amount's text.
func decimal(n *big.Int) string {
	s := fmt.Sprintf("%03d", new(big.Int).Abs(n))
	s = s[:len(s)-2] + "." + s[len(s)-2:]
	if n.Sign() < 0 {
		return "-" + s
	}
	return s
}
