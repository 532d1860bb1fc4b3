package clearing_test

import (
	"math"
	"testing"

	"bourse/api"
	"bourse/clearing"
	"bourse/num"
	. "bourse/sample"
)

func TestP22_4New(t *testing.T) {
	for _, cents := range []uint64{0, 1, 1 << 62, 1 << 63, top} {
		h := clearing.New(cents)
		Same(t, "Own", h.Own(), cents)
		stand(t, h)
		closes(t, h, "")
		pays(t, h, 0, 1, api.ErrNobody)
		pays(t, h, 1, 1, api.ErrNobody)
		takes(t, h, deal(0, 0, 1, 1), api.ErrNobody)
	}
}

func TestP22_4Join(t *testing.T) {
	h := clearing.New(5)
	for _, x := range []struct {
		f   api.Fund
		why api.Errno
	}{
		{fund(0, 1<<62+1), api.ErrArg}, {fund(0, 0), api.ErrArg}, {fund(9, 1<<62+1), api.ErrCents}, {fund(9, top), api.ErrCents}, {fund(9, 1<<62), api.OK}, {fund(9, 0), api.ErrThere}, {fund(9, top), api.ErrThere},
		{fund(last, 1<<62-1), api.OK}, {fund(3, 2), api.ErrCents}, {fund(3, 1<<62), api.ErrCents}, {fund(3, 0), api.OK}, {fund(1, 1), api.OK}, {fund(2, 1), api.ErrCents}, {fund(2, 0), api.OK}, {fund(0, 0), api.ErrArg}, {fund(3, 0), api.ErrThere},
	} {
		joins(t, h, x.f, x.why)
	}
	stand(t, h, standing(t, 1, 1, "0.00"), standing(t, 2, 0, "0.00"), standing(t, 3, 0, "0.00"), standing(t, 9, 1<<62, "0.00"), standing(t, last, 1<<62-1, "0.00"))
	Same(t, "Own", h.Own(), 5)
}

// The funds of all count as they are by now, also of those that are out.
func TestP22_4JoinBehindAFall(t *testing.T) {
	h := house(t, 0, fund(1, 1<<62), fund(2, 1<<61), fund(3, 1<<61))
	pays(t, h, 2, 500, api.OK)
	takes(t, h, deal(1, 2, 100, 5), api.OK)
	closes(t, h, "call 1: -5.00 of 0.00;", free(7, 0))
	closes(t, h, "fall 1: 500 0 [0 0] 0;", free(7, 0))
	joins(t, h, fund(1, 0), api.ErrThere)
	joins(t, h, fund(4, 501), api.ErrCents)
	joins(t, h, fund(4, 300), api.OK)
	joins(t, h, fund(5, 201), api.ErrCents)
	joins(t, h, fund(5, 200), api.OK)
	joins(t, h, fund(6, 1), api.ErrCents)
	joins(t, h, fund(6, 0), api.OK)
}

func TestP22_4Pay(t *testing.T) {
	h := house(t, 7, fund(2, 10), fund(1, 20))
	for _, x := range []struct {
		member uint32
		cents  uint64
		why    api.Errno
	}{
		{0, 1, api.ErrNobody}, {3, 1, api.ErrNobody}, {3, 0, api.ErrNobody}, {0, top, api.ErrNobody}, {1, 0, api.ErrCents}, {1, 1<<62 + 1, api.ErrCents}, {1, 1 << 63, api.ErrCents}, {2, top, api.ErrCents},
		{1, 1, api.OK}, {1, 1 << 62, api.OK}, {1, 1 << 62, api.OK}, {2, 150, api.OK}, {1, 1 << 62, api.OK}, {1, 1 << 62, api.OK},
	} {
		pays(t, h, x.member, x.cents, x.why)
	}
	stand(t, h, standing(t, 1, 20, "184467440737095516.17"), standing(t, 2, 10, "1.50"))
	Same(t, "Own", h.Own(), 7)
}

// fallen is a house of which the member 1 is out, and 2 and 3 are not.
func fallen(t *testing.T) *clearing.House {
	t.Helper()
	h := house(t, 1000, fund(1, 500), fund(2, 500), fund(3, 0))
	pays(t, h, 2, 9999, api.OK)
	takes(t, h, deal(1, 2, 500, 10), api.OK)
	closes(t, h, "call 1: -10.00 of 4.00;", rate(7, 400, 1, 10))
	closes(t, h, "fall 1: 500 500 [0 0] 0;", rate(7, 400, 1, 10))
	return h
}

// Each deal has the fault, and such as come behind it.
func TestP22_5Refused(t *testing.T) {
	h := fallen(t)
	takes(t, h, in(8, deal(2, 3, 1, most)), api.OK)
	before := state(h)
	for _, x := range []struct {
		d   api.Deal
		why api.Errno
	}{
		{deal(0, 2, 1, 1), api.ErrNobody}, {deal(2, 0, 1, 1), api.ErrNobody}, {deal(4, 1, -1, 0), api.ErrNobody}, {deal(1, 4, 1, 1), api.ErrNobody}, {deal(0, 0, 1, 1), api.ErrNobody}, {api.Deal{}, api.ErrNobody},
		{deal(1, 2, 1, 1), api.ErrDefault}, {deal(2, 1, -1, 0), api.ErrDefault}, {deal(1, 1, 1, 1), api.ErrDefault}, {deal(3, 1, 1, most+1), api.ErrDefault},
		{deal(2, 3, -1, 1), api.ErrPrice}, {deal(2, 3, api.Ticks, 0), api.ErrPrice}, {deal(3, 3, math.MinInt, 1), api.ErrPrice}, {deal(2, 3, math.MaxInt, top), api.ErrPrice}, {deal(2, 3, 1<<32, 1), api.ErrPrice},
		{deal(2, 3, 1, 0), api.ErrQty}, {deal(2, 3, 1, most+1), api.ErrQty}, {deal(2, 2, 0, 0), api.ErrQty}, {deal(2, 3, api.Ticks-1, top), api.ErrQty}, {deal(2, 3, 1, 1<<63), api.ErrQty},
	} {
		takes(t, h, x.d, x.why)
		Same(t, "all that it keeps", state(h), before)
	}
	pays(t, h, 1, 5, api.ErrDefault)
	pays(t, h, 1, 0, api.ErrDefault)
}

func TestP22_5Take(t *testing.T) {
	h := house(t, 0, fund(1, 0), fund(2, 0), fund(last, 0))
	for _, taker := range []int{0, 1, 2, 9, -1} { // it plays no part
		d := deal(1, 2, 500, 3)
		d.Taker = taker
		takes(t, h, d, api.OK)
	}
	takes(t, h, deal(2, last, 600, 7), api.OK)
	takes(t, h, in(0, deal(last, 1, 0, most)), api.OK)
	takes(t, h, in(last, deal(1, 2, api.Ticks-1, 1)), api.OK)
	for _, x := range []struct {
		member, instrument uint32
		qty                int64
	}{{1, 7, 15}, {2, 7, -8}, {last, 7, -7}, {last, 0, most}, {1, 0, -most}, {1, last, 1}, {2, last, -1}, {2, 0, 0}, {0, 7, 0}, {3, 7, 0}, {last, last, 0}, {1, 8, 0}} {
		has(t, h, x.member, x.instrument, x.qty)
	}
	stand(t, h, standing(t, 1, 0, "0.00"), standing(t, 2, 0, "0.00"), standing(t, last, 0, "0.00")) // nothing is paid ahead of a close
	closes(t, h, "call 2: -23.00 of 0.00;call 4294967295: -7.00 of 0.00;", free(7, 700), free(0, 0), free(last, api.Ticks-1), free(99, 5))
	stand(t, h, standing(t, 1, 0, "30.00"), called(standing(t, 2, 0, "-23.00")), called(standing(t, last, 0, "-7.00")))
}

// far brings the position of a buyer to 2^40 - 1, and that of a seller to the other side.
func far(t *testing.T, h *clearing.House, buyer, seller uint32) {
	t.Helper()
	for range 256 {
		takes(t, h, deal(buyer, seller, 1, most), api.OK)
	}
	takes(t, h, deal(buyer, seller, 1, 255), api.OK)
	has(t, h, buyer, 7, 1<<40-1)
	has(t, h, seller, 7, 1-1<<40)
}

// A position may be as great as 2^40, and no greater, on either side.
func TestP22_5Over(t *testing.T) {
	h := house(t, 0, fund(1, 0), fund(2, 0), fund(3, 0))
	far(t, h, 1, 2)
	before := state(h)
	takes(t, h, deal(1, 3, 1, 2), api.ErrOver) // the buyer's
	takes(t, h, deal(3, 2, 1, 2), api.ErrOver) // the seller's
	takes(t, h, deal(1, 2, 1, most), api.ErrOver)
	Same(t, "all that it keeps", state(h), before)
	takes(t, h, deal(1, 3, 1, 1), api.OK)
	takes(t, h, deal(3, 2, 1, 1), api.OK)
	has(t, h, 1, 7, 1<<40)
	has(t, h, 2, 7, -1<<40)
	has(t, h, 3, 7, 0)
	takes(t, h, deal(1, 3, 0, 1), api.ErrOver)
	takes(t, h, deal(3, 2, 0, 1), api.ErrOver)
	takes(t, h, in(8, deal(1, 2, 1, most)), api.OK) // another instrument's are others
	takes(t, h, deal(2, 1, 1, most), api.OK)        // nearer to 0
	takes(t, h, deal(1, 2, 1, most), api.OK)
	takes(t, h, deal(1, 2, 1, 1), api.ErrOver)
	stand(t, h, standing(t, 1, 0, "0.00"), standing(t, 2, 0, "0.00"), standing(t, 3, 0, "0.00"))
}

// Who deals with itself has bought ahead of selling: that may be too much, though it is gone at once.
func TestP22_5Oneself(t *testing.T) {
	h := house(t, 0, fund(1, 0), fund(2, 0))
	takes(t, h, in(9, deal(1, 1, 500, 7)), api.OK)
	has(t, h, 1, 9, 0)
	far(t, h, 1, 2)
	takes(t, h, deal(1, 1, 1, 2), api.ErrOver)
	takes(t, h, deal(1, 1, 1, most), api.ErrOver)
	takes(t, h, deal(1, 1, 9, 1), api.OK)
	takes(t, h, deal(2, 2, 9, most), api.OK) // it comes nearer to 0, and goes back
	takes(t, h, deal(1, 2, 1, 1), api.OK)
	takes(t, h, deal(2, 2, 9, most), api.OK)
	takes(t, h, deal(1, 1, 1, 1), api.ErrOver)
	has(t, h, 1, 7, 1<<40)
	has(t, h, 2, 7, -1<<40)
	closes(t, h, "", free(7, 1)) // no value was changed, and 9 needs no rate
	stand(t, h, standing(t, 1, 0, "0.00"), standing(t, 2, 0, "0.00"))
}

func TestP22_7Asked(t *testing.T) {
	h := fallen(t)
	for range 2 {
		stand(t, h, out(standing(t, 1, 0, "0.00")), standing(t, 2, 500, "109.99"), standing(t, 3, 0, "0.00"))
		has(t, h, 0, 7, 10)
		has(t, h, 1, 7, 0)
		has(t, h, 2, 7, -10)
		has(t, h, 3, 7, 0)
		has(t, h, 4, 7, 0) // to ask is not to take
		has(t, h, 2, 8, 0)
		has(t, h, last, last, 0)
		Same(t, "Own", h.Own(), 500)
	}
}

// No list that was answered is the house's own, nor another answer's; no list that was handed in is kept or changed.
func TestP22_7Memory(t *testing.T) {
	h := house(t, 100, fund(1, 50), fund(2, 50), fund(3, 50), fund(4, 50))
	takes(t, h, deal(1, 2, 500, 10), api.OK)
	takes(t, h, deal(3, 4, 500, 10), api.OK)
	before := state(h)
	kept := h.Standings()
	Spoil(h.Standings(), clearing.Standing{Member: 99, Fund: 99})
	Same(t, "all that it keeps", state(h), before)
	stand(t, h, kept...)
	rates := []api.Rate{free(7, 0), free(8, 1), free(9, 0)}[:1]
	calls, _, _ := h.Close(rates)
	Same(t, "Close", told(calls, nil), "call 1: -50.00 of 0.00;call 3: -50.00 of 0.00;")
	Spoil(calls, clearing.Call{Member: 99})
	SameList(t, "the rates", rates[:3], []api.Rate{free(7, 0), free(8, 1), free(9, 0)})
	Spoil(rates, free(7, 100))
	_, falls, _ := h.Close([]api.Rate{free(7, 0)})
	Same(t, "Close", told(nil, falls), "fall 1: 50 100 [50 50] 4750;fall 3: 50 0 [0 0] 4950;")
	before = state(h)
	Spoil(falls[0].Cover.Others, 99)
	Same(t, "the other fall", told(nil, falls[1:]), "fall 3: 50 0 [0 0] 4950;")
	Spoil(falls, clearing.Fall{Member: 99})
	Same(t, "all that it keeps", state(h), before)
}

// Two houses know nothing of one another.
func TestP22_4Apart(t *testing.T) {
	a, b := fallen(t), clearing.New(3)
	joins(t, b, fund(1, 4), api.OK)
	pays(t, b, 1, 1, api.OK)
	stand(t, b, standing(t, 1, 4, "0.01"))
	has(t, b, 0, 7, 0)
	Same(t, "Own", b.Own(), 3)
	Same(t, "Own", a.Own(), 500)
}

// A house that New has not made answers something, and does not panic.
func TestP22_4Zero(t *testing.T) {
	for _, joined := range []bool{false, true} {
		var h clearing.House
		if joined {
			h.Join(fund(1, 5))
			h.Join(fund(2, 5))
		}
		h.Pay(1, 5)
		h.Take(deal(1, 1, 5, 5))
		h.Take(deal(1, 2, 5, 5))
		for range 3 {
			h.Close([]api.Rate{rate(7, 3, 1, 1)})
		}
		h.Close(nil)
		state(&h)
	}
}

func TestP22_7Examples(t *testing.T) {
	h := house(t, 1000, fund(1, 500), fund(2, 500))
	takes(t, h, deal(1, 2, 500, 10), api.OK)
	calls, falls, why := h.Close([]api.Rate{rate(7, 400, 1, 10)})
	Same(t, "Close", why, api.OK)
	SameList(t, "the calls", calls, []clearing.Call{{Member: 1, Need: num.Cents(400), Have: num.Cents(-1000)}})
	Same(t, "the falls", len(falls), 0)
	stand(t, h, called(standing(t, 1, 500, "-10.00")), standing(t, 2, 500, "10.00"))
	closes(t, h, "fall 1: 500 500 [0] 0;", rate(7, 400, 1, 10))
	has(t, h, 0, 7, 10)
	_, _, why = h.Close(nil)
	Same(t, "Close", why, api.ErrRate)
	takes(t, h, deal(1, 2, 500, 10), api.ErrDefault)
}
