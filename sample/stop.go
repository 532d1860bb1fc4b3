package sample

import (
	"math"

	"bourse/api"
)

// Stop is a stop order with the fields of a New.
func Stop(number uint64, trigger int, c api.Command) api.Stop {
	return api.Stop{Number: number, Member: c.Member, Side: c.Side, Type: c.Type, Trigger: trigger, Price: c.Price, Qty: c.Qty, Peak: c.Peak}
}

// Stopped tells that a stop order was taken, or, for a reason, that it is gone.
func Stopped(s api.Stop, reason int) api.Event {
	return api.Event{Kind: api.EvStop, ID: s.Number, Target: uint64(s.Trigger), Member: s.Member, Side: s.Side, Type: s.Type, Price: s.Price, Qty: s.Qty, Peak: s.Peak, Reason: reason}
}

// Triggered tells that a stop order is let go, as the order of an ID.
func Triggered(number, id uint64) api.Event {
	return api.Event{Kind: api.EvTrigger, ID: number, Other: id}
}

// LikelyStop is a stop order that may well be taken where numbers have come so high; its price and trigger are below prices.
func LikelyStop(x *Mixer, high uint64, prices int) api.Stop {
	c := Likely(x, 0, prices)
	if c.Type == api.Market {
		c.Price = 0
	}
	return Stop(high+Pick[uint64](x, 0, 1, 1, 1, 2, 5), x.Below(prices), c)
}

// WildStop is a likely stop order of which some fields may be anything.
func WildStop(x *Mixer, high uint64, prices int) api.Stop {
	odd, wrong := oddities(), wrongs()
	s := LikelyStop(x, high, prices)
	for range 2 {
		switch x.Below(24) {
		case 0:
			s.Number = Pick(x, odd...)
		case 1:
			s.Side = Pick(x, wrong...)
		case 2:
			s.Type = Pick(x, wrong...)
		case 3:
			s.Trigger = Pick(x, wrong...)
		case 4:
			s.Price = Pick(x, wrong...)
		case 5:
			s.Qty = Pick(x, odd...)
		case 6:
			s.Peak = Pick(x, odd...)
		case 7:
			s.Member = Pick[uint32](x, 0, math.MaxUint32)
		}
	}
	return s
}
