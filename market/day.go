package market

import (
	"slices"

	"bourse/api"
	"bourse/exchange"
)

// begin makes the exchange: MAKER TAKER BY CENTS.
func (m *market) begin(a args) []string {
	whole, why := exchange.New(api.Tariff{Maker: a.short(0), Taker: a.short(1), By: a.short(2)}, a.number(3))
	m.whole, m.clients = whole, map[uint32]*client{}
	return answer(why)
}

// instrument is the number of a name, 0 where none has it.
func (m *market) instrument(name string) uint32 {
	return uint32(slices.Index(m.whole.Names(), name) + 1)
}

// list: NAME CAPACITY MEET ENGINE REFERENCE STATIC DYNAMIC STOPS PART BY.
func (m *market) list(a args) []string {
	s := api.Session{
		Config: api.Config{Capacity: a.small(1), Meet: a.small(2)}, Engine: a.small(3),
		Reference: a.small(4), Static: a.small(5), Dynamic: a.small(6), Stops: a.small(7),
	}
	number, why := m.whole.List(a[0], s, a.short(8), a.short(9))
	if why != api.OK {
		return answer(why)
	}
	return []string{say("list", digits(number))}
}

// join: MEMBER ORDER OPEN COUNT POSITION WORTH FUND CENTS.
func (m *market) join(a args) []string {
	l := api.Limits{Order: a.number(1), Open: a.number(2), Count: a.small(3), Position: a.number(4), Worth: a.number(5)}
	return answer(m.whole.Join(a.member(), l, a.number(6), a.number(7)))
}

func (m *market) pay(a args) []string { return answer(m.whole.Pay(a.member(), a.number(1))) }

func (m *market) turn(a args) []string {
	l, why := m.whole.Turn(m.instrument(a[0]), a.small(1))
	return answer(why, m.reports(l)...)
}

func (m *market) engine(a args) []string {
	return answer(m.whole.Swap(m.instrument(a[0]), a.small(1)))
}

func (m *market) kill(a args) []string {
	l, why := m.whole.Kill(a.member())
	return answer(why, m.reports(l)...)
}

func (m *market) revive(a args) []string { return answer(m.whole.Revive(a.member())) }

func (m *market) settle(args) []string {
	calls, falls, l, why := m.whole.Settle()
	if why != api.OK {
		return answer(why)
	}
	lines := []string{say("settle", digits(len(calls)), digits(len(falls)))}
	for _, c := range calls {
		lines = append(lines, say("call", digits(c.Member), c.Need.Text(), c.Have.Text()))
	}
	for _, f := range falls {
		lines = append(lines, say("fall", digits(f.Member), digits(f.Cover.Own), digits(f.Cover.House), digits(f.Cover.Left)))
	}
	return append(lines, m.reports(l)...)
}

func (m *market) tick(args) []string {
	m.whole.Tick()
	return answer(api.OK)
}
