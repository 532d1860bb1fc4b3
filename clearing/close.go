package clearing

import (
	"bourse/api"
	"bourse/num"
)

// Call is what a member has to bring: what its positions need, and what it has.
type Call struct {
	Member     uint32
	Need, Have num.Money
}

// Fall is a member that could not pay, and who bore what it owed.
type Fall struct {
	Member uint32
	Cover  api.Cover
}

// Close ends a day: what was gained and lost by its prices is paid, who has too little is called, and who was called in vain falls.
func (h *House) Close(l []api.Rate) ([]Call, []Fall, api.Errno) {
	rates, why := h.rated(l)
	if why != api.OK {
		return nil, nil, why
	}
	h.settle(rates)
	calls, fallen := h.call(h.needs(rates))
	return calls, h.drop(fallen), api.OK
}

// rated is the rates by their instruments, or why a day can't be closed by them.
func (h *House) rated(l []api.Rate) (map[uint32]api.Rate, api.Errno) {
	rates := map[uint32]api.Rate{}
	dear, wrong := false, false
	for _, r := range l {
		dear = dear || !isPrice(r.Price)
		wrong = wrong || r.By == 0 || r.Part > r.By
		rates[r.Instrument] = r
	}
	switch {
	case len(rates) < len(l): // two are of one instrument
		return nil, api.ErrArg
	case dear:
		return nil, api.ErrPrice
	case wrong || !h.allRated(rates):
		return nil, api.ErrRate
	}
	return rates, api.OK
}

// allRated tells whether each instrument has a rate of which somebody has or owes something.
func (h *House) allRated(rates map[uint32]api.Rate) bool {
	for at, p := range h.positions {
		if _, ok := rates[at.instrument]; !ok && p.qty != 0 {
			return false
		}
	}
	return true
}

// settle brings to each margin what the prices made of its member's positions, which stand at these prices then.
func (h *House) settle(rates map[uint32]api.Rate) {
	for at, p := range h.positions {
		r, ok := rates[at.instrument]
		if !ok {
			continue
		}
		worth := p.worth(r.Price)
		if m := h.find(at.member); m != nil { // what the house took over is nobody's margin
			m.Margin = plus(m.Margin, less(worth, p.value))
		}
		h.hold(at, position{qty: p.qty, value: worth})
	}
}

// needs is how much margin each member's positions need.
func (h *House) needs(rates map[uint32]api.Rate) map[uint32]num.Money {
	needs := map[uint32]num.Money{}
	for at, p := range h.positions {
		r, ok := rates[at.instrument]
		if !ok {
			continue
		}
		need, _ := num.Times(uint32(r.Price), p.size()).Portion(r.Part, r.By, num.Up) // at most the whole, as no Part is above its By
		needs[at.member] = plus(needs[at.member], need)
	}
	return needs
}

// call calls those that have less than they need; who was called at the last close falls.
func (h *House) call(needs map[uint32]num.Money) (calls []Call, fallen []*Standing) {
	for _, m := range h.members {
		if m.Out {
			continue
		}
		need := needs[m.Member]
		switch {
		case m.Margin.Compare(need) >= 0:
			m.Called = false
		case m.Called:
			fallen = append(fallen, m)
		default:
			m.Called = true
			calls = append(calls, Call{Member: m.Member, Need: need, Have: m.Margin})
		}
	}
	return calls, fallen
}

// drop puts those out that fall: all of them ahead of the first loss, as none bears another one's.
func (h *House) drop(fallen []*Standing) []Fall {
	for _, m := range fallen {
		m.Called, m.Out = false, true
	}
	h.takeOver()
	var falls []Fall
	for _, m := range fallen {
		falls = append(falls, Fall{Member: m.Member, Cover: h.cover(m)})
	}
	return falls
}

// takeOver brings the positions of those that are out to the member 0.
func (h *House) takeOver() {
	var gone []holding
	for at := range h.positions {
		if m := h.find(at.member); m != nil && m.Out {
			gone = append(gone, at)
		}
	}
	for _, at := range gone {
		to := holding{instrument: at.instrument}
		h.hold(to, h.positions[to].and(h.positions[at]))
		delete(h.positions, at)
	}
}

// cover makes good what a member that fell owes, as far as somebody has it.
func (h *House) cover(m *Standing) api.Cover {
	if m.Margin.Sign() >= 0 {
		return api.Cover{}
	}
	var others []*Standing
	var funds []api.Fund
	for _, o := range h.members {
		if !o.Out {
			others = append(others, o)
			funds = append(funds, api.Fund{Member: o.Member, Cents: o.Fund})
		}
	}
	c, _ := Bear(owed(m.Margin), m.Fund, h.own, funds) // the funds' sum fits: Join sees to it
	m.Fund -= c.Own
	m.Margin = num.Money{}
	h.own -= c.House
	for i, o := range others {
		o.Fund -= c.Others[i]
	}
	return c
}

// owed is the size of an amount below 0, at most 2^64 - 1.
func owed(m num.Money) uint64 {
	words := m.Neg().Words()
	if words[0] != 0 {
		return 1<<64 - 1
	}
	return words[1]
}
