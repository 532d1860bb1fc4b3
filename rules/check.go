package rules

import (
	"slices"

	"bourse/api"
)

// Check tells what a command is refused for, by all that does not hang on a book.
func Check(c api.Command) api.Errno {
	switch c.Kind {
	case api.New:
		return checkOrder(c)
	case api.Replace:
		// Its Side and Type are those of the order Target, whatever stands here.
		c.Side, c.Type = api.Buy, api.Limit
		return checkOrder(c)
	case api.Cancel:
		return api.OK
	}
	return api.ErrKind
}

func checkOrder(c api.Command) api.Errno {
	switch {
	case !isSide(c.Side):
		return api.ErrSide
	case c.Type < api.Limit || c.Type > api.PostOnly:
		return api.ErrType
	case !isPrice(c.Price) || c.Type == api.Market && c.Price != 0:
		return api.ErrPrice
	case c.Qty < 1 || c.Qty > api.MaxQty:
		return api.ErrQty
	case c.Peak != 0 && !peakFits(c):
		return api.ErrPeak
	case c.ID == 0:
		return api.ErrID
	}
	return api.OK
}

// peakFits tells whether an order of a quantity that can be may have its peak, which is not 0.
func peakFits(c api.Command) bool {
	return rests(c.Type) && c.Peak <= c.Qty && c.Qty <= api.MaxShows*c.Peak
}

func isPrice(price int) bool { return price >= 0 && price < api.Ticks }

// rests tells whether orders of a type may stand in a book.
func rests(kind int) bool { return kind == api.Limit || kind == api.PostOnly }

// configCanBe tells whether there can be a book of a config.
func configCanBe(c api.Config) bool {
	return c.Capacity >= 1 && c.Capacity <= api.MaxOrders && c.Meet >= api.MeetTrade && c.Meet <= api.MeetBoth
}

// Valid tells whether there can be such a book.
func Valid(b api.Book) api.Errno {
	if !configCanBe(b.Config) || len(b.Buys)+len(b.Sells) > b.Config.Capacity {
		return api.ErrBook
	}
	ordered := inPriority(api.Buy, b.Buys) && inPriority(api.Sell, b.Sells) && !crossed(b)
	if !ordered || !ordersCanBe(b.Buys, b.High) || !ordersCanBe(b.Sells, b.High) || !distinct(b.Buys, b.Sells) {
		return api.ErrBook
	}
	return api.OK
}

// inPriority tells whether a side's orders stand so, as far as prices tell.
func inPriority(side int, l []api.Resting) bool {
	return slices.IsSortedFunc(l, func(a, b api.Resting) int {
		switch {
		case better(side, a.Price, b.Price):
			return -1
		case better(side, b.Price, a.Price):
			return 1
		}
		return 0
	})
}

// crossed tells whether the two orders that stand first would trade.
func crossed(b api.Book) bool {
	return len(b.Buys) > 0 && len(b.Sells) > 0 && b.Buys[0].Price >= b.Sells[0].Price
}

func ordersCanBe(l []api.Resting, high uint64) bool {
	return !slices.ContainsFunc(l, func(r api.Resting) bool {
		return r.ID < 1 || r.ID > high || !rests(r.Type) || !isPrice(r.Price) || !amountsCanBe(r)
	})
}

// amountsCanBe looks at what an order shows and hides; each bound keeps the next sum or product from wrapping.
func amountsCanBe(r api.Resting) bool {
	if r.Visible < 1 || r.Visible > api.MaxQty || r.Hidden > api.MaxQty-r.Visible || r.Peak > api.MaxQty {
		return false
	}
	if r.Peak == 0 {
		return r.Hidden == 0
	}
	return r.Visible <= r.Peak && r.Visible+r.Hidden <= api.MaxShows*r.Peak
}

// distinct tells whether no two orders have one ID.
func distinct(lists ...[]api.Resting) bool {
	var ids []uint64
	for _, l := range lists {
		for _, r := range l {
			ids = append(ids, r.ID)
		}
	}
	slices.Sort(ids)
	return len(slices.Compact(ids)) == len(ids)
}
