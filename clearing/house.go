package clearing

import (
	"cmp"
	"slices"

	"bourse/api"
	"bourse/num"
)

// The greatest amount, in cents, that a member may bring at once; the greatest sum of all funds; the greatest size of a member's position.
const (
	mostCents    = 1 << 62
	mostFunds    = 1 << 63
	mostPosition = 1 << 40
)

// Standing is a member: its fund, its margin, whether it was called at the last close, and whether it is out.
type Standing struct {
	Member uint32
	Fund   uint64
	Margin num.Money
	Called bool
	Out    bool
}

// House is the clearing house.
type House struct {
	own uint64
	// members are rising.
	members []*Standing
	// positions of the member 0 are what the house took over; one that is 0 in quantity and value is not kept.
	positions map[holding]position
}

// New is a house without members, with so many cents of its own.
func New(cents uint64) *House { return &House{own: cents} }

// Join takes a member in, with its fund.
func (h *House) Join(f api.Fund) api.Errno {
	if f.Member == 0 {
		return api.ErrArg
	}
	at, there := h.place(f.Member)
	switch {
	case there:
		return api.ErrThere
	case f.Cents > mostCents || h.funds()+f.Cents > mostFunds: // does not wrap: no funds get more once they are in
		return api.ErrCents
	}
	h.members = slices.Insert(h.members, at, &Standing{Member: f.Member, Fund: f.Cents})
	return api.OK
}

// funds is the sum of all funds, as they are.
func (h *House) funds() uint64 {
	sum := uint64(0)
	for _, m := range h.members {
		sum += m.Fund
	}
	return sum
}

// place is where a member stands among all, or would stand, and whether it does.
func (h *House) place(member uint32) (int, bool) {
	return slices.BinarySearchFunc(h.members, member, func(m *Standing, member uint32) int { return cmp.Compare(m.Member, member) })
}

// find is a member, nil where it is none.
func (h *House) find(member uint32) *Standing {
	at, there := h.place(member)
	if !there {
		return nil
	}
	return h.members[at]
}

// Pay brings margin.
func (h *House) Pay(member uint32, cents uint64) api.Errno {
	m := h.find(member)
	switch {
	case m == nil:
		return api.ErrNobody
	case m.Out:
		return api.ErrDefault
	case cents == 0 || cents > mostCents:
		return api.ErrCents
	}
	m.Margin = plus(m.Margin, num.Cents(int64(cents)))
	return api.OK
}

// Standings is all members, rising.
func (h *House) Standings() []Standing {
	out := make([]Standing, len(h.members))
	for i, m := range h.members {
		out[i] = *m
	}
	return out
}

// Own is what the house has left of its own.
func (h *House) Own() uint64 { return h.own }
