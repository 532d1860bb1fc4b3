package risk

import "bourse/api"

// Ahead tells whether a command may go to the book, or why not; it changes nothing.
func (d *Desk) Ahead(c api.Command) api.Errno {
	switch c.Kind {
	case api.New:
		return d.newOne(c)
	case api.Cancel:
		return d.owned(c)
	case api.Replace:
		return d.another(c)
	}
	return api.OK // the book will refuse it
}

// newOne is why a New may not go to the book.
func (d *Desk) newOne(c api.Command) api.Errno {
	s, why := d.active(c)
	if why != api.OK {
		return why
	}
	if s.Count >= s.Limits.Count {
		return api.ErrCount
	}
	if why := room(s, c.Side, c.Qty, 0); why != api.OK {
		return why
	}
	if c.Type == api.Market { // it has no price of its own
		return api.OK
	}
	return worth(s, c)
}

// another is why a Replace may not go to the book. (It takes one order's place: no more are open behind it.)
func (d *Desk) another(c api.Command) api.Errno {
	if why := d.owned(c); why != api.OK {
		return why
	}
	s, why := d.active(c)
	if why != api.OK {
		return why
	}
	old, ok := d.orders[c.Target]
	if !ok { // the book will refuse it
		return api.OK
	}
	if why := room(s, old.side, c.Qty, old.rest); why != api.OK {
		return why
	}
	return worth(s, c)
}

// owned is whether nobody else has the open order that a command means.
func (d *Desk) owned(c api.Command) api.Errno {
	if o, ok := d.orders[c.Target]; ok && o.member != c.Member {
		return api.ErrOwner
	}
	return api.OK
}

// active is how the member of a New or a Replace stands, if it may ask for such a quantity at all.
func (d *Desk) active(c api.Command) (api.Standing, api.Errno) {
	s, ok := d.Standing(c.Member)
	switch {
	case !ok:
		return api.Standing{}, api.ErrMember
	case s.Killed:
		return api.Standing{}, api.ErrKilled
	case c.Qty > s.Limits.Order:
		return api.Standing{}, api.ErrOrder
	}
	return s, api.OK
}

// room is whether a member may have qty more open on a side, in the place of what was. (What is taken off stands on the other side of the comparison: no difference is ever below 0.)
func room(s api.Standing, side int, qty, was uint64) api.Errno {
	if total(s.Buys, s.Sells, qty).above(total(s.Limits.Open, was)) {
		return api.ErrOpened
	}
	had, open, gone := s.Sold, s.Sells, s.Bought
	if side == api.Buy {
		had, open, gone = s.Bought, s.Buys, s.Sold
	}
	if total(had, open, qty).above(total(s.Limits.Position, was, gone)) {
		return api.ErrPosition
	}
	return api.OK
}

// worth is whether a command's price and quantity come to no more than an order may be worth.
func worth(s api.Standing, c api.Command) api.Errno {
	if c.Price > 0 && product(uint64(c.Price), c.Qty).above(total(s.Limits.Worth)) {
		return api.ErrWorth
	}
	return api.OK
}
