package sample

import (
	"math"

	"bourse/api"
)

// Order is a New of nobody's, without a peak.
func Order(id uint64, side, kind, price int, qty uint64) api.Command {
	return api.Command{Kind: api.New, ID: id, Side: side, Type: kind, Price: price, Qty: qty}
}

// Buy is a New of a Limit that buys.
func Buy(id uint64, price int, qty uint64) api.Command {
	return Order(id, api.Buy, api.Limit, price, qty)
}

// Sell is a New of a Limit that sells.
func Sell(id uint64, price int, qty uint64) api.Command {
	return Order(id, api.Sell, api.Limit, price, qty)
}

// Cancel is one.
func Cancel(target uint64) api.Command { return api.Command{Kind: api.Cancel, Target: target} }

// Replace is one, without a peak.
func Replace(target, id uint64, price int, qty uint64) api.Command {
	return api.Command{Kind: api.Replace, Target: target, ID: id, Price: price, Qty: qty}
}

// Peaked is the command with a peak.
func Peaked(c api.Command, peak uint64) api.Command {
	c.Peak = peak
	return c
}

// By is the command as one of a member.
func By(c api.Command, member uint32) api.Command {
	c.Member = member
	return c
}

// Trimmed is the command without the fields that its kind does not have.
func Trimmed(c api.Command) api.Command {
	switch c.Kind {
	case api.New:
		c.Target = 0
	case api.Cancel:
		c = Cancel(c.Target)
	case api.Replace:
		c = Peaked(Replace(c.Target, c.ID, c.Price, c.Qty), c.Peak)
	}
	return c
}

// Likely is a command that a book of such a High may well take; its price is below prices.
func Likely(x *Mixer, high uint64, prices int) api.Command {
	c := api.Command{Kind: Pick(x, 1, 1, 1, 1, 1, 2, 3), ID: high + uint64(x.Below(3)), Target: uint64(x.Below(int(min(high, 1000)) + 2)), Member: uint32(x.Below(4)), Price: x.Below(prices), Qty: uint64(1 + x.Below(12))}
	// Most orders do not rest for long: of the last ones some are likely there.
	if high > 12 && x.Below(3) > 0 {
		c.Target = high - uint64(x.Below(12))
	}
	c.Side = Pick(x, api.Buy, api.Sell)
	c.Type = Pick(x, 1, 1, 1, 1, 2, 3, 4, 4, 5, 5)
	if c.Kind == api.New && c.Type == api.Market {
		c.Price = 0
	}
	if (c.Type == api.Limit || c.Type == api.PostOnly) && x.Below(3) == 0 {
		c.Peak = 1 + x.Next()%c.Qty
		c.Qty += uint64(x.Below(20))
	}
	return c
}

// oddities is counts and numbers about the ends of what can be.
func oddities() []uint64 {
	return []uint64{0, 1, 255, 256, 257, math.MaxUint32, math.MaxUint32 + 1, 1 << 56, math.MaxInt64, math.MaxUint64 - 1, math.MaxUint64}
}

// wrongs is sides, types and prices of which most can't be.
func wrongs() []int {
	return []int{math.MinInt, math.MinInt32, -1, 0, 3, 4, 5, 6, 7, api.Ticks - 1, api.Ticks, math.MaxInt32, math.MaxInt}
}

// Wild is a likely command of which some fields may be anything.
func Wild(x *Mixer, high uint64, prices int) api.Command {
	odd, wrong := oddities(), wrongs()
	c := Likely(x, high, prices)
	for range 2 {
		switch x.Below(24) {
		case 0:
			c.Kind = Pick(x, wrong...)
		case 1:
			c.ID = Pick(x, odd...)
		case 2:
			c.Target = Pick(x, odd...)
		case 3:
			c.Side = Pick(x, wrong...)
		case 4:
			c.Type = Pick(x, wrong...)
		case 5:
			c.Price = Pick(x, wrong...)
		case 6:
			c.Qty = Pick(x, odd...)
		case 7:
			c.Peak = Pick(x, odd...)
		case 8:
			c.Member = Pick[uint32](x, 0, math.MaxUint32)
		}
	}
	return c
}
