package clearing_test

import (
	"cmp"
	"fmt"
	"math/big"
	"slices"
	"strings"
	"testing"

	"bourse/api"
	"bourse/clearing"
	"bourse/num"
	. "bourse/sample"
)

// The tests hold a house against a model that keeps each step of a position by itself, and finds each answer from these steps, in whole numbers of math/big.

const (
	last = 1<<32 - 1 // the greatest number of a member or an instrument
	most = api.MaxQty
	top  = 1<<64 - 1
)

// deal is one of the instrument 7.
func deal(buyer, seller uint32, price int, qty uint64) api.Deal {
	return api.Deal{Instrument: 7, Buyer: buyer, Seller: seller, Taker: api.Buy, Price: price, Qty: qty}
}

// in is the deal in another instrument.
func in(instrument uint32, d api.Deal) api.Deal {
	d.Instrument = instrument
	return d
}

func rate(instrument uint32, price int, part, by uint32) api.Rate {
	return api.Rate{Instrument: instrument, Price: price, Part: part, By: by}
}

// free is a rate at which nothing is needed.
func free(instrument uint32, price int) api.Rate { return rate(instrument, price, 0, 1) }

func fund(member uint32, cents uint64) api.Fund { return api.Fund{Member: member, Cents: cents} }

func money(t *testing.T, s string) num.Money {
	t.Helper()
	m, why := num.ParseMoney(s)
	Same(t, s, why, api.OK)
	return m
}

func standing(t *testing.T, member uint32, fund uint64, margin string) clearing.Standing {
	t.Helper()
	return clearing.Standing{Member: member, Fund: fund, Margin: money(t, margin)}
}

func called(s clearing.Standing) clearing.Standing {
	s.Called = true
	return s
}

func out(s clearing.Standing) clearing.Standing {
	s.Out = true
	return s
}

func house(t *testing.T, cents uint64, members ...api.Fund) *clearing.House {
	t.Helper()
	h := clearing.New(cents)
	for _, f := range members {
		joins(t, h, f, api.OK)
	}
	return h
}

func joins(t *testing.T, h *clearing.House, f api.Fund, want api.Errno) {
	t.Helper()
	if why := h.Join(f); why != want {
		t.Fatalf("Join(%v): %v, not %v", f, why, want)
	}
}

func pays(t *testing.T, h *clearing.House, member uint32, cents uint64, want api.Errno) {
	t.Helper()
	if why := h.Pay(member, cents); why != want {
		t.Fatalf("Pay(%d, %d): %v, not %v", member, cents, why, want)
	}
}

func takes(t *testing.T, h *clearing.House, d api.Deal, want api.Errno) {
	t.Helper()
	if why := h.Take(d); why != want {
		t.Fatalf("Take(%v): %v, not %v", d, why, want)
	}
}

// closes closes a day that must be closed; what it tells must be this text.
func closes(t *testing.T, h *clearing.House, want string, l ...api.Rate) {
	t.Helper()
	calls, falls, why := h.Close(l)
	Same(t, "Close", why, api.OK)
	Same(t, "Close", told(calls, falls), want)
}

// told is calls and falls as one text: a call by its need and what is there, a fall by who bears it.
func told(calls []clearing.Call, falls []clearing.Fall) string {
	var b strings.Builder
	for _, c := range calls {
		fmt.Fprintf(&b, "call %d: %s of %s;", c.Member, c.Have.Text(), c.Need.Text())
	}
	for _, f := range falls {
		fmt.Fprintf(&b, "fall %d: %d %d %v %d;", f.Member, f.Cover.Own, f.Cover.House, f.Cover.Others, f.Cover.Left)
	}
	return b.String()
}

func stand(t *testing.T, h *clearing.House, want ...clearing.Standing) {
	t.Helper()
	SameList(t, "Standings", h.Standings(), want)
}

func has(t *testing.T, h *clearing.House, member, instrument uint32, want int64) {
	t.Helper()
	Same(t, "Position", h.Position(member, instrument), want)
}

func number(n uint64) *big.Int { return new(big.Int).SetUint64(n) }

func product(a, b *big.Int) *big.Int { return new(big.Int).Mul(a, b) }

func sum(l ...*big.Int) *big.Int {
	out := new(big.Int)
	for _, n := range l {
		out.Add(out, n)
	}
	return out
}

func minus(n *big.Int) *big.Int { return new(big.Int).Neg(n) }

func lesser(a, b *big.Int) *big.Int {
	if a.Cmp(b) < 0 {
		return a
	}
	return b
}

func value(d api.Deal) *big.Int { return product(big.NewInt(int64(d.Price)), number(d.Qty)) }

// whole is an amount's cents.
func whole(m num.Money) *big.Int {
	n, ok := new(big.Int).SetString(strings.Replace(m.Text(), ".", "", 1), 10)
	if !ok {
		panic(m.Text())
	}
	return n
}

// decimal is an amount's text.
func decimal(n *big.Int) string {
	s := fmt.Sprintf("%03d", new(big.Int).Abs(n))
	s = s[:len(s)-2] + "." + s[len(s)-2:]
	if n.Sign() < 0 {
		return "-" + s
	}
	return s
}

// borne is a cover of the model.
type borne struct {
	own, house *big.Int
	others     []*big.Int
	left       *big.Int
}

func (b borne) text() string { return fmt.Sprintf("%d %d %v %d", b.own, b.house, b.others, b.left) }

// bears is how a loss is borne by whole numbers.
func bears(loss, own, house *big.Int, others []*big.Int) borne {
	b := borne{own: lesser(loss, own)}
	left := sum(loss, minus(b.own))
	b.house = lesser(left, house)
	left = sum(left, minus(b.house))
	all := sum(others...)
	shared := lesser(left, all)
	b.left = sum(left, minus(shared))
	b.others = shares(shared, others, all)
	return b
}

// shares goes through all rests anew for each unit that is left.
func shares(amount *big.Int, weights []*big.Int, all *big.Int) []*big.Int {
	parts, rests := make([]*big.Int, len(weights)), make([]*big.Int, len(weights))
	left := new(big.Int).Set(amount)
	for i, w := range weights {
		parts[i], rests[i] = new(big.Int), new(big.Int)
		if all.Sign() > 0 {
			parts[i].QuoRem(product(amount, w), all, rests[i])
		}
		left.Sub(left, parts[i])
	}
	for ; left.Sign() > 0; left.Sub(left, big.NewInt(1)) {
		best := 0
		for i := range rests {
			if rests[i].Cmp(rests[best]) > 0 {
				best = i
			}
		}
		parts[best] = sum(parts[best], big.NewInt(1))
		rests[best] = big.NewInt(-1)
	}
	return parts
}

// person is a member of the model.
type person struct {
	member       uint32
	fund, margin *big.Int
	called, out  bool
}

// step is what a purchase, a sale, a close or a taking over made of a position.
type step struct {
	member, instrument uint32
	qty, value         *big.Int
}

type model struct {
	own    *big.Int
	people []*person
	steps  []step
}

func (m *model) find(member uint32) *person {
	for _, p := range m.people {
		if p.member == member {
			return p
		}
	}
	return nil
}

func (m *model) join(f api.Fund) api.Errno {
	all := number(f.Cents)
	for _, p := range m.people {
		all = sum(all, p.fund)
	}
	switch {
	case f.Member == 0:
		return api.ErrArg
	case m.find(f.Member) != nil:
		return api.ErrThere
	case f.Cents > 1<<62 || all.Cmp(number(1<<63)) > 0:
		return api.ErrCents
	}
	m.people = append(m.people, &person{member: f.Member, fund: number(f.Cents), margin: new(big.Int)})
	slices.SortFunc(m.people, func(a, b *person) int { return cmp.Compare(a.member, b.member) })
	return api.OK
}

func (m *model) pay(member uint32, cents uint64) api.Errno {
	p := m.find(member)
	switch {
	case p == nil:
		return api.ErrNobody
	case p.out:
		return api.ErrDefault
	case cents == 0 || cents > 1<<62:
		return api.ErrCents
	}
	p.margin = sum(p.margin, number(cents))
	return api.OK
}

// position is the sum of its steps.
func (m *model) position(member, instrument uint32) (qty, value *big.Int) {
	qty, value = new(big.Int), new(big.Int)
	for _, s := range m.steps {
		if s.member == member && s.instrument == instrument {
			qty.Add(qty, s.qty)
			value.Add(value, s.value)
		}
	}
	return qty, value
}

func (m *model) take(d api.Deal) api.Errno {
	buyer, seller := m.find(d.Buyer), m.find(d.Seller)
	switch {
	case buyer == nil || seller == nil:
		return api.ErrNobody
	case buyer.out || seller.out:
		return api.ErrDefault
	case d.Price < 0 || d.Price > api.Ticks-1:
		return api.ErrPrice
	case d.Qty == 0 || d.Qty > api.MaxQty:
		return api.ErrQty
	}
	had := len(m.steps)
	for _, s := range []step{{d.Buyer, d.Instrument, number(d.Qty), value(d)}, {d.Seller, d.Instrument, minus(number(d.Qty)), minus(value(d))}} {
		m.steps = append(m.steps, s)
		if qty, _ := m.position(s.member, s.instrument); qty.CmpAbs(number(1<<40)) > 0 {
			m.steps = m.steps[:had]
			return api.ErrOver
		}
	}
	return api.OK
}

// owners is all that may have positions.
func (m *model) owners() []uint32 {
	l := []uint32{0}
	for _, p := range m.people {
		l = append(l, p.member)
	}
	return l
}

// traded is the instruments that there were steps in.
func (m *model) traded() []uint32 {
	var l []uint32
	for _, s := range m.steps {
		l = append(l, s.instrument)
	}
	slices.Sort(l)
	return slices.Compact(l)
}

func (m *model) wrongRates(l []api.Rate) api.Errno {
	for i, r := range l {
		if slices.ContainsFunc(l[:i], func(o api.Rate) bool { return o.Instrument == r.Instrument }) {
			return api.ErrArg
		}
	}
	for _, r := range l {
		if r.Price < 0 || r.Price >= api.Ticks {
			return api.ErrPrice
		}
	}
	for _, r := range l {
		if r.By == 0 || r.Part > r.By {
			return api.ErrRate
		}
	}
	for _, i := range m.traded() {
		if slices.ContainsFunc(l, func(r api.Rate) bool { return r.Instrument == i }) {
			continue
		}
		for _, o := range m.owners() {
			if qty, _ := m.position(o, i); qty.Sign() != 0 {
				return api.ErrRate
			}
		}
	}
	return api.OK
}

// close is what Close tells, as told has it.
func (m *model) close(l []api.Rate) (string, api.Errno) {
	if why := m.wrongRates(l); why != api.OK {
		return "", why
	}
	for _, r := range l {
		for _, o := range m.owners() {
			m.brings(o, r)
		}
	}
	var calls, falls strings.Builder
	var fallen []*person
	for _, p := range m.people {
		need := m.need(p.member, l)
		below := p.margin.Cmp(need) < 0
		switch {
		case p.out:
		case below && p.called:
			fallen = append(fallen, p)
		case below:
			fmt.Fprintf(&calls, "call %d: %s of %s;", p.member, decimal(p.margin), decimal(need))
			p.called = true
		default:
			p.called = false
		}
	}
	for _, p := range fallen {
		fmt.Fprintf(&falls, "fall %d: %s;", p.member, m.falls(p, fallen).text())
	}
	return calls.String() + falls.String(), api.OK
}

func (m *model) brings(owner uint32, r api.Rate) {
	qty, value := m.position(owner, r.Instrument)
	more := sum(product(qty, big.NewInt(int64(r.Price))), minus(value))
	m.steps = append(m.steps, step{owner, r.Instrument, new(big.Int), more})
	if p := m.find(owner); p != nil {
		p.margin = sum(p.margin, more)
	}
}

// need is, of each instrument, the least whole number that is not below the exact part.
func (m *model) need(member uint32, l []api.Rate) *big.Int {
	need := new(big.Int)
	for _, r := range l {
		qty, _ := m.position(member, r.Instrument)
		n := product(product(qty.Abs(qty), big.NewInt(int64(r.Price))), number(uint64(r.Part)))
		by := number(uint64(r.By))
		n.Add(n, sum(by, big.NewInt(-1)))
		need.Add(need, n.Quo(n, by))
	}
	return need
}

func (m *model) falls(p *person, fallen []*person) borne {
	for _, i := range m.traded() {
		qty, value := m.position(p.member, i)
		m.steps = append(m.steps, step{0, i, qty, value}, step{p.member, i, minus(qty), minus(value)})
	}
	p.called, p.out = false, true
	if p.margin.Sign() >= 0 {
		return borne{new(big.Int), new(big.Int), nil, new(big.Int)}
	}
	var others []*person
	var funds []*big.Int
	for _, o := range m.people {
		if !o.out && !slices.Contains(fallen, o) {
			others, funds = append(others, o), append(funds, o.fund)
		}
	}
	b := bears(lesser(minus(p.margin), number(top)), p.fund, m.own, funds)
	p.margin = new(big.Int)
	p.fund = sum(p.fund, minus(b.own))
	m.own = sum(m.own, minus(b.house))
	for i, o := range others {
		o.fund = sum(o.fund, minus(b.others[i]))
	}
	return b
}

// owners and things are who and what is asked of, be it there or not.
func owners() []uint32 { return []uint32{0, 1, 2, 3, 4, 5, 6, 7, 8, 9, 10, last - 1, last} }

func things() []uint32 { return []uint32{0, 1, 7, 8, last} }

// state is all that a house can be asked of, as one text.
func state(h *clearing.House) string {
	var b strings.Builder
	fmt.Fprintln(&b, h.Own())
	for _, s := range h.Standings() {
		fmt.Fprintln(&b, s.Member, s.Fund, s.Margin.Text(), s.Called, s.Out)
	}
	for _, o := range owners() {
		for _, i := range things() {
			fmt.Fprintln(&b, o, i, h.Position(o, i))
		}
	}
	return b.String()
}

// state is what the model answers to the same.
func (m *model) state() string {
	var b strings.Builder
	fmt.Fprintln(&b, m.own)
	for _, p := range m.people {
		fmt.Fprintln(&b, p.member, p.fund, decimal(p.margin), p.called, p.out)
	}
	for _, o := range owners() {
		for _, i := range things() {
			qty, _ := m.position(o, i)
			fmt.Fprintln(&b, o, i, qty)
		}
	}
	return b.String()
}
