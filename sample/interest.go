package sample

import (
	"math"

	"bourse/api"
)

// Interest is one with the fields of a New.
func Interest(c api.Command) api.Interest {
	return api.Interest{ID: c.ID, Member: c.Member, Side: c.Side, Type: c.Type, Price: c.Price, Qty: c.Qty}
}

// LikelyInterest is one that a call may well take; its ID is below ids, its price below prices.
func LikelyInterest(x *Mixer, ids, prices int) api.Interest {
	i := api.Interest{ID: uint64(x.Below(ids)), Member: uint32(x.Below(4)), Side: Pick(x, api.Buy, api.Sell), Type: Pick(x, 1, 1, 1, 1, 1, 2), Qty: uint64(1 + x.Below(Pick(x, 2, 2, 9)))}
	if i.Type == api.Limit {
		i.Price = x.Below(prices)
	}
	return i
}

// WildInterest is a likely one of which some fields may be anything.
func WildInterest(x *Mixer, ids, prices int) api.Interest {
	odd, wrong := oddities(), wrongs()
	i := LikelyInterest(x, ids, prices)
	for range 2 {
		switch x.Below(24) {
		case 0:
			i.ID = Pick(x, odd...)
		case 1:
			i.Side = Pick(x, wrong...)
		case 2:
			i.Type = Pick(x, wrong...)
		case 3:
			i.Price = Pick(x, wrong...)
		case 4:
			i.Qty = Pick(x, odd...)
		case 5:
			i.Member = Pick[uint32](x, 0, math.MaxUint32)
		}
	}
	return i
}
