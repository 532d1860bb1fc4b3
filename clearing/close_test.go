package clearing_test

import (
	"math"
	"slices"
	"testing"

	"bourse/api"
	"bourse/clearing"
	. "bourse/sample"
)

// Each list has the fault, and such as come behind it; nothing is changed, and who was called is not asked again.
func TestP22_6Refused(t *testing.T) {
	h := house(t, 1000, fund(1, 5), fund(2, 5), fund(3, 5))
	takes(t, h, deal(1, 2, 500, 10), api.OK)
	takes(t, h, in(8, deal(1, 2, 500, 10)), api.OK)
	takes(t, h, in(8, deal(2, 1, 600, 10)), api.OK) // 0 again: it needs no rate
	takes(t, h, in(9, deal(3, 3, 600, 10)), api.OK)
	closes(t, h, "call 1: -50.00 of 0.00;", free(7, 0))
	before := state(h)
	good := free(7, 1)
	for _, x := range []struct {
		l   []api.Rate
		why api.Errno
	}{
		{[]api.Rate{good, good}, api.ErrArg}, {[]api.Rate{good, rate(8, -1, 2, 1), free(7, 2)}, api.ErrArg}, {[]api.Rate{free(1, -1), free(1, -1)}, api.ErrArg}, {[]api.Rate{rate(0, 0, 0, 0), free(3, api.Ticks), good, free(0, 1)}, api.ErrArg},
		{[]api.Rate{free(7, -1)}, api.ErrPrice}, {[]api.Rate{free(7, api.Ticks)}, api.ErrPrice}, {[]api.Rate{rate(7, 1, 1, 0), free(8, api.Ticks)}, api.ErrPrice}, {[]api.Rate{good, free(99, math.MinInt)}, api.ErrPrice}, {[]api.Rate{rate(99, math.MaxInt, 2, 1)}, api.ErrPrice}, {[]api.Rate{free(7, 1<<32)}, api.ErrPrice},
		{[]api.Rate{rate(7, 1, 2, 1)}, api.ErrRate}, {[]api.Rate{rate(7, 1, 0, 0)}, api.ErrRate}, {[]api.Rate{good, rate(99, 1, 1, 0)}, api.ErrRate}, {[]api.Rate{rate(99, 1, last, last-1), good}, api.ErrRate},
		{nil, api.ErrRate}, {[]api.Rate{free(8, 1)}, api.ErrRate}, {[]api.Rate{free(8, 1), free(9, 1), free(0, 1)}, api.ErrRate},
	} {
		given := slices.Clone(x.l)
		calls, falls, why := h.Close(x.l)
		Same(t, "Close", why, x.why)
		Same(t, "calls and falls", len(calls)+len(falls), 0)
		Same(t, "all that it keeps", state(h), before)
		SameList(t, "the rates", x.l, given)
	}
	pays(t, h, 1, 6000, api.OK)
	closes(t, h, "", rate(7, 0, last, last), free(99, api.Ticks-1)) // 1 paid what it was called for
}

// What the member 0 has needs a rate, as the other side of it does, whoever has that.
func TestP22_6HouseRate(t *testing.T) {
	h := house(t, 0, fund(1, 0), fund(2, 0))
	takes(t, h, deal(1, 2, 100, 4), api.OK)
	closes(t, h, "call 1: 0.00 of 4.00;call 2: 0.00 of 4.00;", rate(7, 100, 1, 1))
	pays(t, h, 2, 400, api.OK)
	closes(t, h, "fall 1: 0 0 [] 0;", rate(7, 100, 1, 1))
	has(t, h, 0, 7, 4)
	_, _, why := h.Close([]api.Rate{free(8, 1)})
	Same(t, "Close", why, api.ErrRate)
	pays(t, h, 2, 1<<40, api.OK)
	closes(t, h, "", free(7, api.Ticks-1)) // what it brings to the member 0 is nobody's
	stand(t, h, out(standing(t, 1, 0, "0.00")), standing(t, 2, 0, "10995105800.04"))
	joins(t, h, fund(3, 0), api.OK)
	takes(t, h, deal(2, 3, 1, 4), api.OK) // 2 has nothing any more
	_, _, why = h.Close(nil)
	Same(t, "Close", why, api.ErrRate)
}

// What is closed by deals brings its value at the next close that has its instrument, and not ahead of it.
func TestP22_6Brought(t *testing.T) {
	h := house(t, 0, fund(1, 0), fund(2, 0))
	takes(t, h, in(8, deal(1, 2, 500, 10)), api.OK)
	takes(t, h, in(8, deal(2, 1, 600, 10)), api.OK)
	takes(t, h, deal(1, 2, 500, 3), api.OK)
	closes(t, h, "call 2: -3.00 of 0.00;", free(7, 600)) // 8 is not there
	stand(t, h, standing(t, 1, 0, "3.00"), called(standing(t, 2, 0, "-3.00")))
	pays(t, h, 2, 300, api.OK)
	closes(t, h, "", free(7, 600)) // its value is what it stood at: nothing is brought again
	stand(t, h, standing(t, 1, 0, "3.00"), standing(t, 2, 0, "0.00"))
	closes(t, h, "call 2: -10.00 of 0.00;", free(8, 1), free(7, 600))
	stand(t, h, standing(t, 1, 0, "13.00"), called(standing(t, 2, 0, "-10.00")))
	takes(t, h, deal(2, 1, 700, 3), api.OK) // from 6.00 to 7.00 each
	pays(t, h, 2, 1300, api.OK)
	closes(t, h, "")
	closes(t, h, "", free(7, 0))
	stand(t, h, standing(t, 1, 0, "16.00"), standing(t, 2, 0, "0.00"))
}

func TestP22_6Need(t *testing.T) {
	for _, x := range []struct {
		r    api.Rate
		need string
	}{
		{rate(7, 400, 1, 10), "4.00"}, {rate(7, 401, 1, 10), "4.01"}, {rate(7, 401, 1, 1000), "0.05"}, {rate(7, 1, 1, last), "0.01"}, {rate(7, 1, last, last), "0.10"}, {rate(7, 1, last-1, last), "0.10"}, {rate(7, 3, 1, 3), "0.10"},
		{rate(7, api.Ticks-1, 1, 1), "26214.30"}, {rate(7, api.Ticks-1, 3, 7), "11234.70"},
	} {
		h := house(t, 0, fund(1, 0), fund(2, 0))
		takes(t, h, deal(1, 2, x.r.Price, 10), api.OK)
		closes(t, h, "call 1: 0.00 of "+x.need+";call 2: 0.00 of "+x.need+";", x.r)
	}
	h := house(t, 0, fund(1, 0), fund(2, 0))
	takes(t, h, deal(1, 2, 500, 10), api.OK)
	closes(t, h, "call 1: -50.00 of 0.00;", rate(7, 0, 1, 1))
	takes(t, h, deal(2, 1, 0, 10), api.OK)
	pays(t, h, 1, 5000, api.OK)
	closes(t, h, "", rate(7, 500, 1, 1)) // without a position nothing is needed
}

// Of several instruments each one's need is rounded by itself; what is lost in one may be gained in the other.
func TestP22_6Instruments(t *testing.T) {
	h := house(t, 0, fund(1, 0), fund(2, 0))
	for i := range uint32(4) {
		takes(t, h, in(i, deal(1+i%2, 2-i%2, 10, 1)), api.OK)
	}
	l := []api.Rate{rate(3, 10, 1, 3), rate(0, 10, 1, 3), rate(2, 10, 1, 3), rate(1, 10, 1, 3)}
	pays(t, h, 1, 16, api.OK)
	closes(t, h, "call 2: 0.00 of 0.16;", l...)
	stand(t, h, standing(t, 1, 0, "0.16"), called(standing(t, 2, 0, "0.00")))
	pays(t, h, 2, 15, api.OK)
	closes(t, h, "fall 2: 0 0 [] 0;", l...) // one cent short
	stand(t, h, standing(t, 1, 0, "0.16"), out(standing(t, 2, 0, "0.15")))

	h = house(t, 0, fund(1, 0), fund(2, 0))
	takes(t, h, in(1, deal(1, 2, 10, 1)), api.OK)
	takes(t, h, in(2, deal(2, 1, 10, 1)), api.OK)
	closes(t, h, "", free(1, 500), free(2, 500))
	stand(t, h, standing(t, 1, 0, "0.00"), standing(t, 2, 0, "0.00"))
}

// Who has just what it needs is not called, and who has it by the next close is not called any more.
func TestP22_6CalledAgain(t *testing.T) {
	h := house(t, 0, fund(1, 0), fund(2, 0))
	pays(t, h, 2, 1<<40, api.OK)
	takes(t, h, deal(1, 2, 100, 4), api.OK)
	r := rate(7, 100, 1, 4)
	pays(t, h, 1, 99, api.OK)
	closes(t, h, "call 1: 0.99 of 1.00;", r)
	pays(t, h, 1, 1, api.OK)
	closes(t, h, "", r)
	stand(t, h, standing(t, 1, 0, "1.00"), standing(t, 2, 0, "10995116277.76"))
	closes(t, h, "call 1: 0.96 of 0.99;", rate(7, 99, 1, 4))
	closes(t, h, "", r) // the price came back: called no more
	closes(t, h, "call 1: 0.96 of 0.99;", rate(7, 99, 1, 4))
	closes(t, h, "fall 1: 0 0 [] 0;", rate(7, 99, 1, 4))
	closes(t, h, "", rate(7, 99, 1, 4))
	stand(t, h, out(standing(t, 1, 0, "0.96")), standing(t, 2, 0, "10995116277.80")) // a margin above 0 stays
	pays(t, h, 1, 4, api.ErrDefault)
}

// All that fall at one close fall together: none bears another one's loss, and what one took of the house and the others the next can't.
func TestP22_6Falls(t *testing.T) {
	h := house(t, 1000, fund(1, 100), fund(2, 300), fund(3, 200), fund(4, 400), fund(5, 0))
	takes(t, h, deal(2, 3, 500, 10), api.OK)
	takes(t, h, deal(4, 1, 500, 2), api.OK)
	takes(t, h, in(9, deal(4, 2, 0, 2)), api.OK)
	takes(t, h, in(9, deal(5, 5, 3, 3)), api.OK)
	closes(t, h, "call 2: -40.00 of 0.00;call 4: -8.00 of 0.00;", free(7, 100), free(9, 0))
	closes(t, h, "fall 2: 300 1000 [100 200 0] 2400;fall 4: 400 0 [0 0 0] 400;", free(7, 100), free(9, 0))
	stand(t, h, standing(t, 1, 0, "8.00"), out(standing(t, 2, 0, "0.00")), standing(t, 3, 0, "40.00"), out(standing(t, 4, 0, "0.00")), standing(t, 5, 0, "0.00"))
	Same(t, "Own", h.Own(), 0)
	has(t, h, 0, 7, 12)
	has(t, h, 0, 9, 0) // one had what the other one owed
	for _, m := range []uint32{2, 4} {
		has(t, h, m, 7, 0)
		has(t, h, m, 9, 0)
	}
	closes(t, h, "", rate(7, 200, 1, 1), free(9, 1)) // 1 has just what it needs, and 3 more
	stand(t, h, standing(t, 1, 0, "6.00"), out(standing(t, 2, 0, "0.00")), standing(t, 3, 0, "30.00"), out(standing(t, 4, 0, "0.00")), standing(t, 5, 0, "0.00"))
}

// A loss beyond 2^64 - 1 is borne as one of 2^64 - 1.
func TestP22_6GreatLoss(t *testing.T) {
	h := house(t, top, fund(1, 1<<62), fund(2, 1<<62))
	var l []api.Rate
	for i := range uint32(70) {
		for range 256 {
			takes(t, h, in(i, deal(1, 2, api.Ticks-1, most)), api.OK)
		}
		l = append(l, free(i, 0))
	}
	loss := product(number(70*256), value(deal(1, 2, api.Ticks-1, most)))
	Same(t, "a loss above 2^64 - 1", loss.Cmp(number(top)), 1)
	closes(t, h, "call 1: -"+decimal(loss)+" of 0.00;", l...)
	closes(t, h, "fall 1: 4611686018427387904 13835058055282163711 [0] 0;", l...)
	Same(t, "Own", h.Own(), 1<<62)
	s := h.Standings()[0]
	Same(t, "the one that fell", s, clearing.Standing{Member: 1, Out: true})
}

// What a member that falls still has to bring of an instrument without a rate goes to the house, and is nobody's margin then.
func TestP22_6FallWithoutARate(t *testing.T) {
	h := house(t, 0, fund(1, 0), fund(2, 0))
	takes(t, h, in(8, deal(1, 2, 0, 5)), api.OK)
	takes(t, h, in(8, deal(2, 1, 100, 5)), api.OK) // 5.00 for 1
	takes(t, h, deal(1, 2, 100, 1), api.OK)
	closes(t, h, "call 1: -1.00 of 0.00;", free(7, 0))
	closes(t, h, "fall 1: 0 0 [0] 100;", free(7, 0))
	closes(t, h, "call 2: -4.00 of 0.00;", free(7, 0), free(8, 0))
	stand(t, h, out(standing(t, 1, 0, "0.00")), called(standing(t, 2, 0, "-4.00")))
	closes(t, h, "fall 2: 0 0 [] 400;", free(7, 0))
	closes(t, h, "")
}
