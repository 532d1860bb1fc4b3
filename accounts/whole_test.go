package accounts_test

import (
	"math/big"
	"testing"

	"bourse/accounts"
	"bourse/api"
	"bourse/num"
	. "bourse/sample"
)

// run is a ledger and the model beside it, done alike.
type run struct {
	t *testing.T
	l *accounts.Ledger
	m model
	x Mixer
}

func tariffs() []api.Tariff {
	return []api.Tariff{{Maker: 1, Taker: 3, By: 1000}, {By: 1}, {Maker: 1, Taker: 1, By: 1}, {Maker: 5, Taker: 0, By: 7}, {Maker: last - 1, Taker: 2, By: last}, {Maker: 0, Taker: 1, By: last}}
}

// member is mostly one of four; the others come to be open late, 0 never.
func (r *run) member() uint32 {
	return Pick[uint32](&r.x, 1, 2, 3, 4, 1, 2, 3, 4, 1, 2, 3, 4, 0, 5, last)
}

func (r *run) instrument() uint32 { return Pick[uint32](&r.x, 0, 7, 7, 7, last) }

func (r *run) deal() api.Deal {
	d := api.Deal{Instrument: r.instrument(), Buyer: r.member(), Seller: r.member(), Taker: Pick(&r.x, api.Buy, api.Sell), Price: r.x.Below(30), Qty: uint64(1 + r.x.Below(12))}
	switch r.x.Below(12) {
	case 0:
		d.Taker = Pick(&r.x, 0, 3, -1, api.Buy)
	case 1:
		d.Price = Pick(&r.x, -1, api.Ticks, api.Ticks-1, 0, 1<<40)
	case 2:
		d.Qty = Pick[uint64](&r.x, 0, most, most+1, 1<<63, most/2, most-3)
	case 3:
		d.Qty, d.Price = r.x.Next()%most+1, r.x.Below(api.Ticks)
	}
	return d
}

func (r *run) amount() num.Money {
	switch r.x.Below(8) {
	case 0:
		return num.Cents(Pick[int64](&r.x, 0, -1, 1, -1<<63, 1<<63-1))
	case 1:
		return num.Times(1<<32-1, r.x.Next())
	case 2:
		m, _ := num.Times(1<<32-1, 1<<64-1).Add(num.Cents(int64(r.x.Below(3)) - 1))
		return m
	}
	return num.Cents(int64(r.x.Below(300)))
}

// step does one thing to both.
func (r *run) step() {
	r.t.Helper()
	member, amount := r.member(), r.amount()
	switch r.x.Below(10) {
	case 0:
		Same(r.t, "Open", r.l.Open(member), r.m.open(member))
	case 1:
		Same(r.t, "Deposit", r.l.Deposit(member, amount), r.m.pays(member, whole(amount), true))
	case 2:
		Same(r.t, "Withdraw", r.l.Withdraw(member, amount), r.m.pays(member, whole(amount), false))
	default:
		d := r.deal()
		Same(r.t, "Book", r.l.Book(d), r.m.book(d))
	}
}

// begin is a run of its own numbers, with two members.
func begin(t *testing.T, seed int) *run {
	tariff := tariffs()[seed%len(tariffs())]
	return &run{t: t, l: ledger(t, tariff, 2, 1), m: model{tariff: tariff, members: []uint32{1, 2}}, x: Mixer(seed)}
}

func people() []uint32 { return []uint32{0, 1, 2, 3, 4, 5, last} }

func things() []uint32 { return []uint32{0, 7, 8, last} }

// Whatever is done, the ledger answers as the model does.
func TestP20_4Model(t *testing.T) {
	for seed := range 24 {
		r := begin(t, seed)
		for i := range 400 {
			r.step()
			if i%20 == 0 || i < 20 {
				Same(t, "all that it keeps", state(r.l, people(), things()), r.m.state(people(), things()))
				r.marks()
			}
		}
		if len(r.m.deals) < 60 {
			t.Fatalf("only %d deals", len(r.m.deals))
		}
	}
}

func (r *run) marks() {
	r.t.Helper()
	for _, price := range []int{0, 1, 13, api.Ticks - 1, api.Ticks, -1, r.x.Below(api.Ticks)} {
		member, instrument := r.member(), r.instrument()
		worth, why := r.l.Mark(member, instrument, price)
		want, whyNot := r.m.mark(member, instrument, price)
		Same(r.t, "Mark", why, whyNot)
		Same(r.t, "Mark", worth.Text(), decimal(want))
	}
}

// The promises of the whole, from what a ledger answers alone.
func TestP20_6Entries(t *testing.T) {
	for seed := range 12 {
		r := begin(t, seed+100)
		for range 300 {
			r.step()
		}
		all := map[api.Account]*big.Int{}
		for _, e := range r.l.Entries() {
			Same(t, "an entry's sign", e.Amount.Sign(), 1)
			for _, a := range []api.Account{e.From, e.To} {
				if all[a] == nil {
					all[a] = new(big.Int)
				}
			}
			all[e.From].Sub(all[e.From], whole(e.Amount))
			all[e.To].Add(all[e.To], whole(e.Amount))
		}
		together := new(big.Int)
		for a, n := range all {
			Same(t, "a balance", r.l.Balance(a).Text(), decimal(n))
			together.Add(together, n)
		}
		Same(t, "all together", together.Sign(), 0)
		for _, m := range r.l.Members() {
			if all[cash(m)] == nil {
				has(t, r.l, cash(m), "0.00")
			}
		}
	}
}

func TestP20_7Positions(t *testing.T) {
	for seed := range 12 {
		r := begin(t, seed+200)
		for range 300 {
			r.step()
			for _, i := range things() {
				all := int64(0)
				for _, m := range r.l.Members() {
					p := r.l.Position(m, i)
					all += p.Qty
					if p.Qty == 0 && p.Cost != (num.Money{}) || p.Qty > 0 && p.Cost.Sign() < 0 || p.Qty < 0 && p.Cost.Sign() > 0 {
						t.Fatalf("member %d has %d for %s", m, p.Qty, p.Cost.Text())
					}
				}
				Same(t, "positions together", all, 0)
			}
		}
	}
}

func TestP20_8Flows(t *testing.T) {
	for seed := range 12 {
		r := begin(t, seed+300)
		for range 300 {
			r.step()
		}
		came := map[[2]uint32]*big.Int{}
		for _, d := range r.m.deals {
			for member, v := range map[uint32]*big.Int{d.Buyer: minus(value(d)), d.Seller: value(d)} {
				key := [2]uint32{member, d.Instrument}
				if came[key] == nil {
					came[key] = new(big.Int)
				}
				if d.Buyer != d.Seller {
					came[key].Add(came[key], v)
				}
			}
		}
		for key, n := range came {
			p := r.l.Position(key[0], key[1])
			Same(t, "what came by deals", decimal(n), decimal(sum(whole(p.Gain), minus(whole(p.Cost)))))
		}
		inside := whole(r.l.Balance(house))
		for _, m := range r.l.Members() {
			inside.Add(inside, whole(r.l.Balance(cash(m))))
		}
		paid := new(big.Int)
		for _, e := range r.l.Entries() {
			if e.From == outside {
				paid.Add(paid, whole(e.Amount))
			}
			if e.To == outside {
				paid.Sub(paid, whole(e.Amount))
			}
		}
		Same(t, "cash and the house", decimal(inside), decimal(paid))
	}
}

// What a trade costs is held against the exact part in whole numbers, by as much as the tariff divides by.
func TestP20_9Fees(t *testing.T) {
	x := Mixer(9)
	for _, tariff := range tariffs() {
		by := count(uint64(tariff.By))
		l := ledger(t, tariff, 1, 2)
		for range 400 {
			d := deal(1, 2, api.Buy, x.Below(Pick(&x, 4, 300, api.Ticks)), 1+x.Next()%Pick[uint64](&x, 3, 1000, most/1000))
			if x.Below(2) == 0 {
				d = deal(2, 1, api.Buy, d.Price, d.Qty)
			}
			before := whole(l.Balance(house))
			told := len(l.Entries())
			books(t, l, d, api.OK)
			paid := map[uint32]*big.Int{1: new(big.Int), 2: new(big.Int)}
			for _, e := range l.Entries()[told:] {
				if e.From == house {
					t.Fatalf("%s went from the house", e.Amount.Text())
				}
				if e.To == house {
					paid[e.From.Member] = whole(e.Amount)
				}
			}
			for member, rate := range map[uint32]uint32{d.Buyer: tariff.Taker, d.Seller: tariff.Maker} {
				exact := product(value(d), count(uint64(rate)))
				over := sum(product(paid[member], by), minus(exact))
				if over.Sign() < 0 || over.Cmp(by) >= 0 {
					t.Fatalf("%v costs %d %s cents", d, member, paid[member])
				}
			}
			Same(t, "the house", l.Balance(house).Text(), decimal(sum(before, paid[1], paid[2])))
		}
	}
}
