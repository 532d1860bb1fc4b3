package risk_test

import (
	"math"
	"slices"
	"testing"

	"bourse/api"
	"bourse/risk"
	. "bourse/sample"
	"bourse/snapshot"
)

// wildEvent is one of which most name orders that may be open; what it says may be anything.
func wildEvent(x *Mixer) api.Event {
	e := api.Event{
		Seq: x.Next(), Kind: Pick(x, 1, 1, 1, 3, 3, 4, 2, 5, 0, -1, 9), ID: Pick(x, things()...), Other: Pick(x, things()...), Target: Pick(x, things()...),
		Member: Pick(x, people()...), Side: Pick(x, 1, 1, 2, 2, 0, -1, 3), Type: x.Below(6), Price: x.Below(30), Qty: uint64(x.Below(12)),
	}
	if x.Below(10) == 0 {
		e.Qty = Pick[uint64](x, top, top-1, 1<<63, 1<<63-1, api.MaxQty, 0)
	}
	return e
}

// wildLimits is some at which runs come to an end, and some at the ends of numbers.
func wildLimits(x *Mixer) api.Limits {
	far := func(near int) uint64 {
		if x.Below(4) == 0 {
			return Pick[uint64](x, 0, top, top-1, 1<<63)
		}
		return uint64(x.Below(near))
	}
	return api.Limits{Order: 4 + far(12), Open: far(60), Count: Pick(x, -1, 0, 2, 4, 8, math.MaxInt), Position: far(40), Worth: far(300)}
}

func wildCommand(x *Mixer) api.Command {
	c := Wild(x, 9, 40)
	c.Target, c.Member = Pick(x, things()...), Pick(x, people()...)
	if c.Kind == api.New && x.Below(3) == 0 {
		c.Price = x.Below(40) // a Market with a price is asked of, too
	}
	return c
}

// own makes a command's member most often that of its target, if that is open.
func own(x *Mixer, m *model, c api.Command) api.Command {
	if o, ok := m.find(c.Target); ok && x.Below(4) > 0 {
		c.Member = o.member
	}
	return c
}

// Whatever is set, told and asked, the desk answers as the model does.
func TestP21_3Model(t *testing.T) {
	answers := map[api.Errno]int{}
	for seed := range 40 {
		x := Mixer(seed)
		d, m := risk.New(), &model{limits: map[uint32]api.Limits{}}
		for i := range 200 {
			member := Pick(&x, people()...)
			switch x.Below(12) {
			case 0, 1:
				l := wildLimits(&x)
				Same(t, "Set", d.Set(member, l), m.set(member, l))
			case 2:
				got, why := d.Kill(member)
				want, whyNot := m.kill(member)
				Same(t, "Kill", why, whyNot)
				SameList(t, "Kill", got, want)
			case 3, 4:
				Same(t, "Revive", d.Revive(member), m.revive(member))
			default:
				var l []api.Event
				for range x.Below(3) {
					l = append(l, wildEvent(&x))
				}
				d.Behind(l)
				m.log = append(m.log, l...)
			}
			for range 4 {
				c := own(&x, m, wildCommand(&x))
				want := m.ahead(c)
				asks(t, d, c, want)
				answers[want]++
			}
			if i%10 == 0 {
				Same(t, "all that it keeps", state(d), m.state())
			}
		}
		Same(t, "all that it keeps", state(d), m.state())
	}
	for _, why := range []api.Errno{api.OK, api.ErrMember, api.ErrKilled, api.ErrOwner, api.ErrOrder, api.ErrCount, api.ErrOpened, api.ErrPosition, api.ErrWorth} {
		if answers[why] < 50 {
			t.Fatalf("%v was asked for %d times alone", why, answers[why])
		}
	}
}

func engine(t *testing.T, kind, meet int) api.Engine {
	t.Helper()
	e, why := snapshot.Make(kind, api.Config{Capacity: 12, Meet: meet})
	Same(t, "Make", why, api.OK)
	return e
}

// asBook ends a test where the desk's open orders are not those of the book.
func asBook(t *testing.T, d *risk.Desk, b api.Book) {
	t.Helper()
	ids := map[uint32][]uint64{}
	for side, l := range map[int][]api.Resting{api.Buy: b.Buys, api.Sell: b.Sells} {
		sums := map[uint32]uint64{}
		for _, r := range l {
			rests(t, d, r.ID, r.Visible+r.Hidden)
			ids[r.Member] = append(ids[r.Member], r.ID)
			sums[r.Member] += r.Visible + r.Hidden
		}
		for _, m := range d.Members() {
			s := stands(t, d, m)
			Same(t, "the sum of a side", map[int]uint64{api.Buy: s.Buys, api.Sell: s.Sells}[side], sums[m])
		}
	}
	// Whatever is open at the desk is some member's; so no order is open there alone.
	for m := range uint32(5) {
		slices.Sort(ids[m])
		SameList(t, "Open", d.Open(m), ids[m])
	}
}

// command is a wild one whose ID leaves the book others to take: behind the greatest one all would be refused.
func command(x *Mixer, e api.Engine) api.Command {
	high := e.Book().High
	c := Wild(x, high, 30)
	c.ID = min(c.ID, high+9)
	return c
}

// kinds is the engines and what happens where members meet themselves, one behind the other.
func kinds(t *testing.T, run func(seed int, e api.Engine)) {
	for seed := range 24 {
		run(seed, engine(t, 1+seed%3, seed/3%4))
	}
}

// All orders are of members that are set, so that what is bought and sold can be seen.
func TestP21_5AsTheBook(t *testing.T) {
	trades := 0
	kinds(t, func(seed int, e api.Engine) {
		x, d := Mixer(seed), desk(t, 1, 2, 3, 4)
		traded := uint64(0)
		for range 300 {
			told := e.Do(By(command(&x, e), uint32(1+x.Below(4))))
			d.Behind(told)
			for _, event := range told {
				if event.Kind == api.EvTrade {
					traded += event.Qty
					trades++
				}
			}
			asBook(t, d, e.Book())
			bought, sold := uint64(0), uint64(0)
			for _, m := range d.Members() {
				s := stands(t, d, m)
				bought, sold = bought+s.Bought, sold+s.Sold
			}
			Same(t, "all that was bought", bought, traded)
			Same(t, "all that was sold", sold, traded)
		}
	})
	if trades < 1000 {
		t.Fatalf("only %d trades", trades)
	}
}

// narrow is limits to which a run comes soon; each member has others.
func narrow(x *Mixer) api.Limits {
	return api.Limits{Order: uint64(8 + x.Below(20)), Open: uint64(10 + x.Below(30)), Count: 1 + x.Below(5), Position: uint64(5 + x.Below(25)), Worth: uint64(200 + x.Below(400))}
}

// seen is how often a limit was reached, and a command refused.
type seen struct {
	count, open, position int
	refused               map[api.Errno]int
}

// within ends a test where a member is beyond its limits.
func (n *seen) within(t *testing.T, s api.Standing) {
	t.Helper()
	l, open, position := s.Limits, s.Buys+s.Sells, max(s.Bought, s.Sold)-min(s.Bought, s.Sold)
	if s.Count > l.Count || open > l.Open || position > l.Position {
		t.Fatalf("beyond the limits: %+v", s)
	}
	if s.Count == l.Count {
		n.count++
	}
	if open == l.Open {
		n.open++
	}
	if position == l.Position {
		n.position++
	}
}

// The limits hold, and are reached: they keep nobody farther off than they say.
func TestP21_6Within(t *testing.T) {
	all := seen{refused: map[api.Errno]int{}}
	kinds(t, func(seed int, e api.Engine) {
		x, d := Mixer(seed+100), risk.New()
		for m := range uint32(3) {
			Same(t, "Set", d.Set(m+1, narrow(&x)), api.OK)
		}
		for range 500 {
			c := By(command(&x, e), uint32(x.Below(5)))
			if r, _, ok := e.Find(c.Target); ok && x.Below(4) > 0 {
				c.Member = r.Member
			}
			if why := d.Ahead(c); why != api.OK {
				all.refused[why]++
				continue
			}
			d.Behind(e.Do(c))
			for _, m := range d.Members() {
				all.within(t, stands(t, d, m))
			}
		}
		asBook(t, d, e.Book())
	})
	if all.count < 100 || all.open < 20 || all.position < 20 {
		t.Fatalf("the limits were hardly reached: %+v", all)
	}
	for _, why := range []api.Errno{api.ErrMember, api.ErrOwner, api.ErrOrder, api.ErrCount, api.ErrOpened, api.ErrPosition, api.ErrWorth} {
		if all.refused[why] < 20 {
			t.Fatalf("hardly refused for %v: %v", why, all.refused)
		}
	}
}

// While it is killed nothing of a member comes to rest or trades when it comes; what it has may be cancelled, and may still trade.
func TestP21_7Stopped(t *testing.T) {
	stopped, cancelled := 0, 0
	kinds(t, func(seed int, e api.Engine) {
		x, d := Mixer(seed+200), desk(t, 1, 2, 3)
		for range 400 {
			switch x.Below(8) {
			case 0:
				d.Kill(uint32(1 + x.Below(3)))
			case 1:
				d.Revive(uint32(1 + x.Below(3)))
			}
			c := By(Likely(&x, e.Book().High, 30), uint32(1+x.Below(3)))
			r, _, there := e.Find(c.Target)
			there = there && c.Kind != api.New
			if there && x.Below(3) > 0 {
				c.Member = r.Member
			}
			others := there && r.Member != c.Member
			why := d.Ahead(c)
			switch killed := stands(t, d, c.Member).Killed; {
			case others:
				Same(t, "of another's order", why, api.ErrOwner)
			case c.Kind == api.Cancel:
				Same(t, "a Cancel", why, api.OK)
				if killed && there {
					cancelled++
				}
			case killed:
				Same(t, "a New or Replace", why, api.ErrKilled)
				stopped++
			default:
				Same(t, "of one that goes on", why, api.OK)
			}
			if why == api.OK {
				d.Behind(e.Do(c))
			}
		}
	})
	if stopped < 500 || cancelled < 50 {
		t.Fatalf("only %d were stopped, %d cancelled", stopped, cancelled)
	}
}
