package auction

import "bourse/api"

func isPrice(price int) bool { return price >= 0 && price < api.Ticks }

func isSide(side int) bool { return side == api.Buy || side == api.Sell }

// check tells what an interest is refused for in whatever call, but for its ID.
func check(i api.Interest) api.Errno {
	switch {
	case !isSide(i.Side):
		return api.ErrSide
	case i.Type != api.Limit && i.Type != api.Market:
		return api.ErrType
	case !isPrice(i.Price) || i.Type == api.Market && i.Price != 0:
		return api.ErrPrice
	case i.Qty < 1 || i.Qty > api.MaxQty:
		return api.ErrQty
	}
	return api.OK
}

// refusal is what an interest is refused for here, or OK.
func (c *Call) refusal(i api.Interest) api.Errno {
	why := check(i)
	switch {
	case why != api.OK:
		return why
	case i.ID == 0 || c.has(i.ID):
		return api.ErrID
	case c.Len() >= c.room:
		return api.ErrFull
	}
	return api.OK
}

// has tells whether an interest of an ID is there, on whatever side.
func (c *Call) has(id uint64) bool {
	return c.of(api.Buy).find(id) >= 0 || c.of(api.Sell).find(id) >= 0
}
