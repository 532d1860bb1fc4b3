package accounts

import (
	"maps"
	"slices"

	"bourse/api"
	"bourse/num"
)

// Position is what a member has of an instrument: below 0, what it owes; what it cost; what was gained by what was closed.
type Position struct {
	Qty        int64
	Cost, Gain num.Money
}

// Position is a member's in an instrument.
func (l *Ledger) Position(member, instrument uint32) Position {
	return l.positions[member][instrument]
}

// Instruments is those in which a deal of a member was booked, rising.
func (l *Ledger) Instruments(member uint32) []uint32 {
	return slices.Sorted(maps.Keys(l.positions[member]))
}

// Mark is what a position is worth at a price beyond what it cost.
func (l *Ledger) Mark(member, instrument uint32, price int) (num.Money, api.Errno) {
	if !isPrice(price) {
		return num.Money{}, api.ErrPrice
	}
	p := l.Position(member, instrument)
	worth := num.Times(uint32(price), size(p.Qty))
	if p.Qty < 0 {
		worth = worth.Neg()
	}
	return less(worth, p.Cost), api.OK
}

func (l *Ledger) hold(member, instrument uint32, p Position) {
	if l.positions[member] == nil {
		l.positions[member] = map[uint32]Position{}
	}
	l.positions[member][instrument] = p
}

// behind is the position when its quantity has gone by d, which brought that money.
func (p Position) behind(d int64, money num.Money) Position {
	if p.Qty == 0 || (p.Qty > 0) == (d > 0) {
		return Position{Qty: p.Qty + d, Cost: less(p.Cost, money), Gain: p.Gain}
	}
	closed := min(size(d), size(p.Qty))
	cost := part(p.Cost, closed, size(p.Qty))
	flow := part(money, closed, size(d))
	step := int64(closed)
	if d < 0 {
		step = -step
	}
	nearer := Position{Qty: p.Qty + step, Cost: less(p.Cost, cost), Gain: plus(p.Gain, less(flow, cost))}
	if step == d {
		return nearer
	}
	return nearer.behind(d-step, less(money, flow)) // what is left opens from 0
}

// part is of an amount as much as a of b are, towards 0; a is at most b, and both are at most api.MaxQty.
func part(m num.Money, a, b uint64) num.Money {
	out, _ := m.Portion(uint32(a), uint32(b), num.Down)
	return out
}

// size is a quantity without its sign.
func size(n int64) uint64 {
	if n < 0 {
		n = -n
	}
	return uint64(n)
}
