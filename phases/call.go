package phases

import (
	"bourse/api"
	"bourse/auction"
)

// call is the interests of one, and what is kept of their orders beside that.
type call struct {
	*auction.Call
	own map[uint64]own
}

// own is an order's type and peak, which an interest has not.
type own struct {
	kind int
	peak uint64
}

// called is a call without interests, by a session's numbers, which must be ones that can be.
func called(s api.Session) *call {
	c, _ := auction.New(s.Reference, s.Config.Capacity)
	return &call{c, map[uint64]own{}}
}

// enter takes in an interest that has its order's own type.
func (c *call) enter(i api.Interest, peak uint64) {
	c.own[i.ID] = own{i.Type, peak}
	if i.Type == api.PostOnly {
		i.Type = api.Limit
	}
	c.Enter(i)
}

// fill takes in the orders of a side of a book, in their priority.
func (c *call) fill(side int, l []api.Resting) {
	for _, r := range l {
		c.enter(api.Interest{ID: r.ID, Member: r.Member, Side: side, Type: r.Type, Price: r.Price, Qty: r.Visible + r.Hidden}, r.Peak)
	}
}

// drop takes out an interest that is there, and answers it with its order's own type.
func (c *call) drop(id uint64) api.Interest {
	i, _ := c.Drop(id)
	i.Type = c.own[id].kind
	delete(c.own, id)
	return i
}

// markets is those of both sides, the buys first.
func (c *call) markets() []api.Interest {
	var l []api.Interest
	for _, side := range [2]int{api.Buy, api.Sell} {
		for _, i := range c.Interests(side) {
			if i.Type == api.Market {
				l = append(l, i)
			}
		}
	}
	return l
}

// resting is the orders of a side of the book that comes of the call.
func (c *call) resting(side int) []api.Resting {
	var l []api.Resting
	for _, i := range c.Interests(side) {
		if i.Type == api.Limit {
			l = append(l, c.order(i))
		}
	}
	return l
}

// order is what rests of an interest.
func (c *call) order(i api.Interest) api.Resting {
	o := c.own[i.ID]
	r := api.Resting{ID: i.ID, Member: i.Member, Type: o.kind, Price: i.Price, Visible: i.Qty, Peak: o.peak}
	if o.peak != 0 {
		r.Visible = min(o.peak, i.Qty)
		r.Hidden = i.Qty - r.Visible
	}
	return r
}
