package engines_test

import (
	"math"
	"testing"

	"bourse/api"
	. "bourse/sample"
)

func TestP9_2TheFirstRefusal(t *testing.T) {
	each(t, func(t *testing.T, open opener) {
		e := open.of(t, Buy(1, 5, 1), Buy(2, 5, 1), Sell(5, 9, 1), Order(6, api.Sell, api.PostOnly, 9, 1))
		// The book is full, and 6 is the greatest ID.
		Refuses(t, e, api.Command{Kind: 7, ID: 1, Target: 99}, api.ErrKind)
		Refuses(t, e, api.Command{ID: 8, Target: 1}, api.ErrKind)
		Refuses(t, e, Cancel(99), api.ErrTarget)
		Refuses(t, e, Cancel(0), api.ErrTarget)
		Refuses(t, e, Cancel(math.MaxUint64), api.ErrTarget)
		Refuses(t, e, api.Command{Kind: api.Cancel, ID: 8, Target: 3}, api.ErrTarget)
		Refuses(t, e, Replace(99, 0, -1, 0), api.ErrTarget)
		Refuses(t, e, Replace(1, 0, -1, 0), api.ErrPrice)
		Refuses(t, e, Replace(1, 0, 5, 0), api.ErrQty)
		Refuses(t, e, Peaked(Replace(1, 0, 5, 1), 2), api.ErrPeak)
		Refuses(t, e, Replace(1, 0, 5, 1), api.ErrID)
		Refuses(t, e, Replace(1, 6, 5, 1), api.ErrID)
		Refuses(t, e, Replace(6, 6, 5, 1), api.ErrID)
		Refuses(t, e, Replace(6, 7, 5, 1), api.ErrCross)
		Refuses(t, e, api.Command{Kind: api.New, Target: 1}, api.ErrSide)
		Refuses(t, e, Order(0, api.Buy, 9, -1, 0), api.ErrType)
		Refuses(t, e, Order(0, api.Buy, api.Limit, -1, 0), api.ErrPrice)
		Refuses(t, e, Order(7, api.Buy, api.Market, 1, 1), api.ErrPrice)
		Refuses(t, e, Order(0, api.Buy, api.Limit, 1, 0), api.ErrQty)
		Refuses(t, e, Peaked(Order(0, api.Buy, api.IOC, 1, 1), 1), api.ErrPeak)
		Refuses(t, e, Buy(0, 1, 1), api.ErrID)
		Refuses(t, e, Buy(6, 1, 1), api.ErrID)
		Refuses(t, e, Buy(7, 1, 1), api.ErrFull)
		Refuses(t, e, Order(7, api.Buy, api.PostOnly, 9, 1), api.ErrFull)
		e.Do(Cancel(2))
		Refuses(t, e, Order(7, api.Buy, api.PostOnly, 9, 1), api.ErrCross)
		Refuses(t, e, Order(7, api.Sell, api.PostOnly, 5, 1), api.ErrCross)
	})
}

func TestP9_2Cross(t *testing.T) {
	each(t, func(t *testing.T, open opener) {
		for _, x := range []struct {
			side, price int
			cross       bool
		}{{api.Buy, 6, false}, {api.Buy, 7, true}, {api.Buy, 8, true}, {api.Sell, 6, false}, {api.Sell, 5, true}, {api.Sell, 4, true}} {
			e := open.of(t, Buy(1, 5, 1), Sell(2, 7, 1))
			c := Order(3, x.side, api.PostOnly, x.price, 1)
			if x.cross {
				Refuses(t, e, c, api.ErrCross)
			} else {
				Tells(t, e, c, Acked(c))
			}
		}
		// Whose the other order is does not matter.
		e := open.meeting(t, api.MeetOldest, By(Sell(1, 7, 1), 3))
		Refuses(t, e, By(Order(2, api.Buy, api.PostOnly, 7, 1), 3), api.ErrCross)
		// A Replace is of the order's own side and type: a Limit may cross.
		e = open.of(t, Order(1, api.Buy, api.PostOnly, 5, 1), Buy(2, 5, 1), Sell(3, 7, 1))
		Refuses(t, e, Replace(1, 4, 7, 1), api.ErrCross)
		Tells(t, e, Replace(1, 4, 6, 1), Ended(1, 1, api.ByReplace), Acked(Order(4, api.Buy, api.PostOnly, 6, 1)))
		Tells(t, e, Replace(2, 5, 7, 1), Ended(2, 1, api.ByReplace), Acked(Buy(5, 7, 1)), Traded(5, 3, api.Buy, 7, 1))
	})
}

func TestP9_2Full(t *testing.T) {
	each(t, func(t *testing.T, open opener) {
		e := open.made(t, api.Config{Capacity: 2})
		e.Do(Buy(1, 5, 1))
		e.Do(Sell(2, 9, 1))
		// Also one that would trade at once, and rest with nothing.
		Refuses(t, e, Buy(3, 9, 1), api.ErrFull)
		for i, kind := range []int{api.IOC, api.FOK} {
			c := Order(uint64(3+i), api.Buy, kind, 8, 1)
			Tells(t, e, c, Acked(c), Ended(c.ID, 1, []int{api.ByRest, api.ByFill}[i]))
		}
		Tells(t, e, Replace(1, 5, 6, 4), Ended(1, 1, api.ByReplace), Acked(Buy(5, 6, 4)))
		c := Order(6, api.Buy, api.Market, 0, 1)
		Tells(t, e, c, Acked(c), Traded(6, 2, api.Buy, 9, 1))
		Tells(t, e, Buy(7, 1, 1), Acked(Buy(7, 1, 1)))
		Refuses(t, e, Buy(8, 1, 1), api.ErrFull)
	})
}
