package auction

import (
	"slices"

	"bourse/api"
)

// traded lets the first buy and the first sell trade until the quote's volume is traded.
func (c *Call) traded(q api.Quote) []api.Fill {
	buys, sells := c.of(api.Buy), c.of(api.Sell)
	var fills []api.Fill
	b, s := 0, 0
	// One side is willing to trade just the volume, so that the last fill ends at it.
	for left := q.Volume; left > 0; {
		buy, sell := (*buys)[b], (*sells)[s]
		qty := min(buy.Qty, sell.Qty)
		fills = append(fills, api.Fill{Buy: buy.ID, Sell: sell.ID, Price: q.Price, Qty: qty})
		left -= qty
		if buys.take(b, qty) {
			b++
		}
		if sells.take(s, qty) {
			s++
		}
	}
	*buys, *sells = slices.Delete(*buys, 0, b), slices.Delete(*sells, 0, s)
	return fills
}
