package auction_test

import (
	"math"
	"slices"
	"testing"

	"bourse/api"
	"bourse/auction"
	. "bourse/sample"
)

// The tests hold every answer against a model that keeps all interests in the order in which they were entered, sums them up anew at each price, and trades one by one.
type model struct {
	reference, room int
	entered         []api.Interest
}

// first is where the interest of a side stands that is first in the priority, or -1.
func (m *model) first(side int) int {
	found := -1
	for at, i := range m.entered {
		if i.Side != side {
			continue
		}
		if found < 0 {
			found = at
			continue
		}
		// One that was entered later comes first only where it is better.
		f := m.entered[found]
		switch {
		case f.Type == 2:
		case i.Type == 2, side == 1 && i.Price > f.Price, side == 2 && i.Price < f.Price:
			found = at
		}
	}
	return found
}

// interests takes out the first one, as long as there is one.
func (m *model) interests(side int) []api.Interest {
	played := model{entered: slices.Clone(m.entered)}
	var l []api.Interest
	for at := played.first(side); at >= 0; at = played.first(side) {
		l = append(l, played.entered[at])
		played.entered = slices.Delete(played.entered, at, at+1)
	}
	return l
}

func (m *model) curve(price int) [2]uint64 {
	var sums [2]uint64
	for _, i := range m.entered {
		if i.Type == 2 || i.Side == 1 && i.Price >= price || i.Side == 2 && i.Price <= price {
			sums[i.Side-1] += i.Qty
		}
	}
	return sums
}

func (m *model) at(id uint64) int {
	for at, i := range m.entered {
		if i.ID == id {
			return at
		}
	}
	return -1
}

// refusal is what P14.2 refuses an interest for.
func (m *model) refusal(i api.Interest) api.Errno {
	if i.Side != 1 && i.Side != 2 {
		return 92
	}
	if i.Type != 1 && i.Type != 2 {
		return 93
	}
	if i.Price < 0 || i.Price > 1<<18-1 || i.Type == 2 && i.Price != 0 {
		return 94
	}
	if i.Qty == 0 || i.Qty > 1<<32-1 {
		return 95
	}
	if i.ID == 0 || m.at(i.ID) >= 0 {
		return 97
	}
	if len(m.entered) == m.room {
		return 98
	}
	return 0
}

func (m *model) enter(i api.Interest) api.Errno {
	why := m.refusal(i)
	if why == 0 {
		m.entered = append(m.entered, i)
	}
	return why
}

func (m *model) drop(id uint64) found {
	at := m.at(id)
	if at < 0 {
		return found{}
	}
	i := m.entered[at]
	m.entered = slices.Delete(m.entered, at, at+1)
	return found{i, true}
}

// keepIf is the quotes of which a rule says so.
func keepIf(l []api.Quote, rule func(q api.Quote) bool) []api.Quote {
	var kept []api.Quote
	for _, q := range l {
		if rule(q) {
			kept = append(kept, q)
		}
	}
	return kept
}

// candidates is what each candidate comes to, no price twice, in no order.
func (m *model) candidates() []api.Quote {
	var l []api.Quote
	seen := map[int]bool{}
	add := func(price int) {
		if seen[price] {
			return
		}
		seen[price] = true
		sums := m.curve(price)
		q := api.Quote{Price: price, Volume: min(sums[0], sums[1]), Surplus: max(sums[0], sums[1]) - min(sums[0], sums[1])}
		if sums[0] > sums[1] {
			q.Side = 1
		}
		if sums[0] < sums[1] {
			q.Side = 2
		}
		l = append(l, q)
	}
	for _, i := range m.entered {
		if i.Type == 1 {
			add(i.Price)
		}
	}
	add(m.reference)
	return l
}

func (m *model) quote() quoted {
	l := m.candidates()
	volume, surplus := uint64(0), uint64(math.MaxUint64)
	for _, q := range l {
		volume = max(volume, q.Volume)
	}
	if volume == 0 {
		return quoted{}
	}
	l = keepIf(l, func(q api.Quote) bool { return q.Volume == volume })
	if len(l) == 1 {
		l[0].Rule = 1
		return quoted{l[0], true}
	}
	for _, q := range l {
		surplus = min(surplus, q.Surplus)
	}
	l = keepIf(l, func(q api.Quote) bool { return q.Surplus == surplus })
	if len(l) == 1 {
		l[0].Rule = 2
		return quoted{l[0], true}
	}
	return quoted{m.nearest(l), true}
}

// nearest is the rules 3 and 4.
func (m *model) nearest(l []api.Quote) api.Quote {
	highest, lowest := l[0], l[0]
	for _, q := range l {
		if q.Price > highest.Price {
			highest = q
		}
		if q.Price < lowest.Price {
			lowest = q
		}
	}
	highest.Rule, lowest.Rule = 3, 3
	if len(keepIf(l, func(q api.Quote) bool { return q.Surplus > 0 && q.Side == 1 })) == len(l) {
		return highest
	}
	if len(keepIf(l, func(q api.Quote) bool { return q.Surplus > 0 && q.Side == 2 })) == len(l) {
		return lowest
	}
	for far := 0; ; far++ {
		for _, price := range []int{m.reference - far, m.reference + far} {
			if near := keepIf(l, func(q api.Quote) bool { return q.Price == price }); len(near) > 0 {
				near[0].Rule = 4
				return near[0]
			}
		}
	}
}

// uncross trades one by one; what one pair trades, one behind the other, is one fill.
func (m *model) uncross() ([]api.Fill, quoted) {
	q := m.quote()
	var fills []api.Fill
	for range q.quote.Volume {
		buy, sell := &m.entered[m.first(1)], &m.entered[m.first(2)]
		if n := len(fills); n > 0 && fills[n-1].Buy == buy.ID && fills[n-1].Sell == sell.ID {
			fills[n-1].Qty++
		} else {
			fills = append(fills, api.Fill{Buy: buy.ID, Sell: sell.ID, Price: q.quote.Price, Qty: 1})
		}
		buy.Qty--
		sell.Qty--
		m.entered = slices.DeleteFunc(m.entered, func(i api.Interest) bool { return i.Qty == 0 })
	}
	return fills, q
}

// found is what Drop answers.
type found struct {
	interest api.Interest
	there    bool
}

// quoted is what Quote answers.
type quoted struct {
	quote api.Quote
	there bool
}

func drop(c *auction.Call, id uint64) found {
	i, there := c.Drop(id)
	return found{i, there}
}

func quote(c *auction.Call) quoted {
	q, there := c.Quote()
	return quoted{q, there}
}

func curve(c *auction.Call, price int) [2]uint64 {
	bought, sold := c.Curve(price)
	return [2]uint64{bought, sold}
}

func uncross(c *auction.Call) ([]api.Fill, quoted) {
	fills, q, there := c.Uncross()
	return fills, quoted{q, there}
}

func made(t *testing.T, reference, room int) *auction.Call {
	t.Helper()
	c, why := auction.New(reference, room)
	if c == nil || why != api.OK {
		t.Fatalf("New(%d, %d): %v", reference, room, why)
	}
	return c
}

// callOf is a call with these interests, which it must take.
func callOf(t *testing.T, reference int, l ...api.Interest) *auction.Call {
	t.Helper()
	c := made(t, reference, max(len(l), 1))
	for _, i := range l {
		Same(t, "Enter", c.Enter(i), api.OK)
	}
	return c
}

// buys, sells, market are interests without a member.
func buys(id uint64, price int, qty uint64) api.Interest { return Interest(Buy(id, price, qty)) }

func sells(id uint64, price int, qty uint64) api.Interest { return Interest(Sell(id, price, qty)) }

func market(id uint64, side int, qty uint64) api.Interest {
	return Interest(Order(id, side, api.Market, 0, qty))
}

// keeps ends a test where a call has not just these interests, in this priority.
func keeps(t *testing.T, c *auction.Call, buys, sells []api.Interest) {
	t.Helper()
	SameList(t, "Interests(Buy)", c.Interests(api.Buy), buys)
	SameList(t, "Interests(Sell)", c.Interests(api.Sell), sells)
	Same(t, "Len", c.Len(), len(buys)+len(sells))
	for _, side := range []int{math.MinInt, -1, 0, 3, math.MaxInt} {
		SameList(t, "Interests of neither side", c.Interests(side), nil)
	}
}

// looked holds all that can be seen of a call against the model, its curve at these prices and at the ends.
func looked(t *testing.T, c *auction.Call, m *model, prices int) {
	t.Helper()
	keeps(t, c, m.interests(1), m.interests(2))
	Same(t, "Quote", quote(c), m.quote())
	for _, price := range []int{math.MinInt, -1, api.Ticks - 1, api.Ticks, math.MaxInt} {
		Same(t, "Curve", curve(c, price), m.curve(price))
	}
	for price := range prices + 1 {
		Same(t, "Curve", curve(c, price), m.curve(price))
	}
}
