package clearing

import (
	"bourse/api"
	"bourse/num"
)

// position is what somebody has of an instrument (below 0: owes), and at what value it stands.
type position struct {
	qty   int64
	value num.Money
}

// and is two positions together.
func (p position) and(other position) position {
	return position{qty: p.qty + other.qty, value: plus(p.value, other.value)}
}

// size is the quantity without its sign.
func (p position) size() uint64 {
	if p.qty < 0 {
		return uint64(-p.qty)
	}
	return uint64(p.qty)
}

// worth is the quantity at a price.
func (p position) worth(price int) num.Money {
	w := num.Times(uint32(price), p.size())
	if p.qty < 0 {
		return w.Neg()
	}
	return w
}

// Position is the quantity of a member's position in an instrument.
func (h *House) Position(member, instrument uint32) int64 {
	return h.positions[holding{member, instrument}].qty
}

// Take books a deal.
func (h *House) Take(d api.Deal) api.Errno {
	if why := h.refused(d); why != api.OK {
		return why
	}
	buyer, seller := holding{d.Buyer, d.Instrument}, holding{d.Seller, d.Instrument}
	step := position{qty: int64(d.Qty), value: value(d)}
	bought := h.positions[buyer].and(step)
	before := h.positions[seller]
	if seller == buyer { // it sells what it just bought
		before = bought
	}
	sold := before.and(position{qty: -step.qty, value: step.value.Neg()})
	if bought.size() > mostPosition || sold.size() > mostPosition {
		return api.ErrOver
	}
	h.hold(buyer, bought)
	h.hold(seller, sold)
	return api.OK
}

// refused is why a deal can't be taken, whatever positions there are.
func (h *House) refused(d api.Deal) api.Errno {
	buyer, seller := h.find(d.Buyer), h.find(d.Seller)
	switch {
	case buyer == nil || seller == nil:
		return api.ErrNobody
	case buyer.Out || seller.Out:
		return api.ErrDefault
	}
	return badTerms(d)
}

// hold keeps a position as it is now.
func (h *House) hold(at holding, p position) {
	if p == (position{}) {
		delete(h.positions, at)
		return
	}
	// Nothing is stored ahead of the first position: a house that New has not made goes on from here, too.
	if h.positions == nil {
		h.positions = map[holding]position{}
	}
	h.positions[at] = p
}
