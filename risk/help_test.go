package risk_test

import (
	"fmt"
	"math/big"
	"slices"
	"strings"
	"testing"

	"bourse/api"
	"bourse/risk"
	. "bourse/sample"
)

// The tests hold a desk against a model that keeps nothing but what was set and told, and finds each answer from its beginning, in whole numbers of math/big.

const (
	last = 1<<32 - 1 // the greatest number of a member
	top  = 1<<64 - 1 // the greatest quantity and ID
)

// free is limits that let all through.
func free() api.Limits {
	return api.Limits{Order: top, Open: top, Count: 1<<63 - 1, Position: top, Worth: top}
}

// desk is one at which these members were set, without a bound.
func desk(t *testing.T, members ...uint32) *risk.Desk {
	t.Helper()
	d := risk.New()
	for _, m := range members {
		Same(t, "Set", d.Set(m, free()), api.OK)
	}
	return d
}

// order is a New of a member's Limit.
func order(id uint64, member uint32, side, price int, qty uint64) api.Command {
	return By(Order(id, side, api.Limit, price, qty), member)
}

// opens tells the desk that such an order was taken.
func opens(d *risk.Desk, id uint64, member uint32, side int, qty uint64) {
	d.Behind(Numbered(0, Acked(order(id, member, side, 10, qty))))
}

// moves is a Replace of a member's.
func moves(target, id uint64, member uint32, price int, qty uint64) api.Command {
	return By(Replace(target, id, price, qty), member)
}

func asks(t *testing.T, d *risk.Desk, c api.Command, want api.Errno) {
	t.Helper()
	if why := d.Ahead(c); why != want {
		t.Fatalf("Ahead(%+v): %v, not %v", c, why, want)
	}
}

func stands(t *testing.T, d *risk.Desk, member uint32) api.Standing {
	t.Helper()
	s, ok := d.Standing(member)
	Same(t, "Standing", ok, true)
	return s
}

func rests(t *testing.T, d *risk.Desk, id, want uint64) {
	t.Helper()
	rest, ok := d.Rest(id)
	Same(t, "Rest", rest, want)
	Same(t, "Rest", ok, want > 0)
}

func count(n uint64) *big.Int { return new(big.Int).SetUint64(n) }

// sum is of what is added, less what is taken off.
func sum(added []uint64, off ...uint64) *big.Int {
	out := new(big.Int)
	for _, n := range added {
		out.Add(out, count(n))
	}
	for _, n := range off {
		out.Sub(out, count(n))
	}
	return out
}

func above(n *big.Int, limit uint64) bool { return n.Cmp(count(limit)) > 0 }

// open is an open order of the model.
type open struct {
	id     uint64
	member uint32
	side   int
	rest   *big.Int
}

type model struct {
	limits map[uint32]api.Limits
	killed []uint32
	log    []api.Event
}

func (m *model) set(member uint32, l api.Limits) api.Errno {
	if member == 0 || l.Count < 0 {
		return api.ErrArg
	}
	m.limits[member] = l
	return api.OK
}

func (m *model) kill(member uint32) ([]uint64, api.Errno) {
	if why := m.revive(member); why != api.OK {
		return nil, why
	}
	m.killed = append(m.killed, member)
	return m.numbers(member), api.OK
}

func (m *model) revive(member uint32) api.Errno {
	if _, ok := m.limits[member]; !ok {
		return api.ErrMember
	}
	m.killed = slices.DeleteFunc(m.killed, func(n uint32) bool { return n == member })
	return api.OK
}

// tally is the open orders behind all that was told, and what members bought and sold.
type tally struct {
	open         []open
	bought, sold map[uint32]*big.Int
}

func (m *model) tally() *tally {
	x := &tally{bought: map[uint32]*big.Int{}, sold: map[uint32]*big.Int{}}
	for _, e := range m.log {
		switch e.Kind {
		case 1:
			x.open = slices.DeleteFunc(x.open, func(o open) bool { return o.id == e.ID })
			x.open = append(x.open, open{e.ID, e.Member, e.Side, count(e.Qty)})
			x.sweep()
		case 3:
			came, rested := x.sold, x.bought
			if e.Side == 1 {
				came, rested = x.bought, x.sold
			}
			x.takes(e.ID, e.Qty, came)
			x.takes(e.Other, e.Qty, rested)
		case 4:
			x.takes(e.ID, e.Qty, map[uint32]*big.Int{})
		}
	}
	return x
}

// takes lessens the rest of an open order, and counts it for its member.
func (x *tally) takes(id, qty uint64, to map[uint32]*big.Int) {
	for _, o := range x.open {
		if o.id == id {
			if to[o.member] == nil {
				to[o.member] = new(big.Int)
			}
			to[o.member].Add(to[o.member], count(qty))
			o.rest.Sub(o.rest, count(qty))
		}
	}
	x.sweep()
}

func (x *tally) sweep() {
	x.open = slices.DeleteFunc(x.open, func(o open) bool { return o.rest.Sign() <= 0 })
}

// wrapped is a number modulo 2^64; none is 0.
func wrapped(n *big.Int) uint64 {
	if n == nil {
		return 0
	}
	return new(big.Int).Mod(n, new(big.Int).Lsh(big.NewInt(1), 64)).Uint64()
}

func (m *model) standing(member uint32) (api.Standing, bool) {
	l, ok := m.limits[member]
	if !ok {
		return api.Standing{}, false
	}
	x := m.tally()
	buys, sells, n := new(big.Int), new(big.Int), 0
	for _, o := range x.open {
		switch {
		case o.member != member:
			continue
		case o.side == 1:
			buys.Add(buys, o.rest)
		default:
			sells.Add(sells, o.rest)
		}
		n++
	}
	return api.Standing{
		Limits: l, Killed: slices.Contains(m.killed, member), Count: n,
		Buys: wrapped(buys), Sells: wrapped(sells), Bought: wrapped(x.bought[member]), Sold: wrapped(x.sold[member]),
	}, true
}

func (m *model) members() []uint32 {
	var out []uint32
	for n := range m.limits {
		out = append(out, n)
	}
	slices.Sort(out)
	return out
}

func (m *model) numbers(member uint32) []uint64 {
	var out []uint64
	for _, o := range m.tally().open {
		if o.member == member {
			out = append(out, o.id)
		}
	}
	slices.Sort(out)
	return out
}

func (m *model) find(id uint64) (open, bool) {
	l := m.tally().open
	if i := slices.IndexFunc(l, func(o open) bool { return o.id == id }); i >= 0 {
		return l[i], true
	}
	return open{rest: new(big.Int)}, false
}

func (m *model) ahead(c api.Command) api.Errno {
	target, there := m.find(c.Target)
	if (c.Kind == 2 || c.Kind == 3) && there && target.member != c.Member {
		return api.ErrOwner
	}
	if c.Kind != 1 && c.Kind != 3 {
		return api.OK
	}
	s, ok := m.standing(c.Member)
	switch {
	case !ok:
		return api.ErrMember
	case s.Killed:
		return api.ErrKilled
	case c.Qty > s.Limits.Order:
		return api.ErrOrder
	case c.Kind == 3 && !there:
		return api.OK
	case c.Kind == 1 && s.Count >= s.Limits.Count:
		return api.ErrCount
	}
	was, side := uint64(0), c.Side
	if c.Kind == 3 {
		was, side = target.rest.Uint64(), target.side
	}
	return summed(s, c, was, side)
}

// summed is what is asked of sums and products.
func summed(s api.Standing, c api.Command, was uint64, side int) api.Errno {
	worth := new(big.Int).Mul(big.NewInt(int64(c.Price)), count(c.Qty))
	switch {
	case above(sum([]uint64{s.Buys, s.Sells, c.Qty}, was), s.Limits.Open):
		return api.ErrOpened
	case side == 1 && above(sum([]uint64{s.Bought, s.Buys, c.Qty}, was, s.Sold), s.Limits.Position):
		return api.ErrPosition
	case side != 1 && above(sum([]uint64{s.Sold, s.Sells, c.Qty}, was, s.Bought), s.Limits.Position):
		return api.ErrPosition
	case (c.Kind == 3 || c.Type != 2) && c.Price > 0 && above(worth, s.Limits.Worth):
		return api.ErrWorth
	}
	return api.OK
}

// people and things are who and what is asked of, be it there or not.
func people() []uint32 { return []uint32{0, 1, 2, 3, 4, 7, 9, last} }

func things() []uint64 { return []uint64{0, 1, 2, 3, 4, 5, 6, 7, 8, 9, top - 1, top} }

// state is all that a desk can be asked of, as one text.
func state(d *risk.Desk) string {
	var b strings.Builder
	fmt.Fprintln(&b, d.Members())
	for _, n := range people() {
		s, ok := d.Standing(n)
		fmt.Fprintln(&b, n, s, ok, d.Open(n))
	}
	for _, id := range things() {
		rest, ok := d.Rest(id)
		fmt.Fprintln(&b, id, rest, ok)
	}
	return b.String()
}

// state is what the model answers to the same.
func (m *model) state() string {
	var b strings.Builder
	fmt.Fprintln(&b, m.members())
	for _, n := range people() {
		s, ok := m.standing(n)
		fmt.Fprintln(&b, n, s, ok, m.numbers(n))
	}
	for _, id := range things() {
		o, ok := m.find(id)
		fmt.Fprintln(&b, id, o.rest, ok)
	}
	return b.String()
}
