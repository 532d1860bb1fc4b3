package clearing_test

import (
	"math"
	"math/big"
	"slices"
	"strings"
	"testing"

	"bourse/api"
	"bourse/clearing"
	. "bourse/sample"
)

// run is a house and the model beside it, done alike.
type run struct {
	t *testing.T
	h *clearing.House
	m model
	x Mixer
	// was is what Close answered, by errors, and how many were called and fell.
	was          map[api.Errno]int
	calls, falls int
}

func begin(t *testing.T, seed int) *run {
	r := &run{t: t, x: Mixer(seed), was: map[api.Errno]int{}}
	own := Pick[uint64](&r.x, 0, 50, 3000, 1<<40, top)
	r.h, r.m = clearing.New(own), model{own: number(own)}
	for range 4 {
		r.join()
	}
	return r
}

func (r *run) member() uint32 { return Pick(&r.x, owners()...) }

func (r *run) join() {
	r.t.Helper()
	f := fund(r.member(), uint64(r.x.Below(2000)))
	if r.x.Below(12) == 0 {
		f.Cents = Pick[uint64](&r.x, 0, 1<<61, 1<<62, 1<<62+1, top)
	}
	Same(r.t, "Join", r.h.Join(f), r.m.join(f))
}

func (r *run) pay() {
	r.t.Helper()
	member, cents := r.member(), uint64(r.x.Below(3000))
	if r.x.Below(9) == 0 {
		cents = Pick[uint64](&r.x, 0, 1<<40, 1<<62, 1<<62+1, top)
	}
	Same(r.t, "Pay", r.h.Pay(member, cents), r.m.pay(member, cents))
}

func (r *run) take() {
	r.t.Helper()
	d := api.Deal{Instrument: Pick(&r.x, things()...), Buyer: r.member(), Seller: r.member(), Taker: r.x.Below(4), Price: r.x.Below(200), Qty: uint64(1 + r.x.Below(12))}
	switch r.x.Below(20) {
	case 0:
		d.Price = Pick(&r.x, -1, api.Ticks, math.MinInt, math.MaxInt, api.Ticks-1)
	case 1:
		d.Qty = Pick[uint64](&r.x, 0, most+1, top, 5000, most)
	}
	Same(r.t, "Take", r.h.Take(d), r.m.take(d))
}

// rates is of most instruments, in some order; now and then something is wrong with them.
func (r *run) rates() []api.Rate {
	var l []api.Rate
	for _, i := range append(things(), 99) {
		qty := int64(0)
		for _, o := range owners() {
			qty |= r.h.Position(o, i)
		}
		if qty == 0 && r.x.Below(2) == 0 || r.x.Below(60) == 0 {
			continue
		}
		by := Pick[uint32](&r.x, 1, 3, 10, 100, last)
		l = append(l, rate(i, r.x.Below(200), uint32(r.x.Next()%(uint64(by)+1)), by))
		if r.x.Below(3) > 0 {
			l[len(l)-1].Part = by / 50
		}
	}
	for i := range l {
		at := r.x.Below(i + 1)
		l[i], l[at] = l[at], l[i]
	}
	if len(l) > 0 {
		r.spoil(l)
	}
	return l
}

func (r *run) spoil(l []api.Rate) {
	at := &l[r.x.Below(len(l))]
	switch r.x.Below(50) {
	case 0:
		at.Instrument = Pick(&r.x, things()...)
	case 1:
		at.Price = Pick(&r.x, -1, api.Ticks, math.MinInt, math.MaxInt)
	case 2:
		at.Part, at.By = Pick[uint32](&r.x, 0, 1, last), 0
	case 3:
		at.Part, at.By = last, last-1
	case 4:
		at.Price = api.Ticks - 1
	}
}

func (r *run) close() ([]clearing.Call, []clearing.Fall, api.Errno) {
	r.t.Helper()
	l := r.rates()
	calls, falls, why := r.h.Close(l)
	want, whyNot := r.m.close(l)
	Same(r.t, "Close", why, whyNot)
	Same(r.t, "Close", told(calls, falls), want)
	r.was[why]++
	r.calls += len(calls)
	r.falls += len(falls)
	return calls, falls, why
}

// step does one thing to both, a close excepted.
func (r *run) step() {
	r.t.Helper()
	switch r.x.Below(12) {
	case 0:
		r.join()
	case 1, 2:
		r.pay()
	default:
		r.take()
	}
}

// Whatever is done, the house answers as the model does.
func TestP22_6Model(t *testing.T) {
	was, calls, falls := map[api.Errno]int{}, 0, 0
	for seed := range 60 {
		r := begin(t, seed)
		for range 40 {
			for range r.x.Below(12) {
				r.step()
			}
			r.close()
			Same(t, "all that it keeps", state(r.h), r.m.state())
		}
		for why, n := range r.was {
			was[why] += n
		}
		calls, falls = calls+r.calls, falls+r.falls
	}
	for _, why := range []api.Errno{api.OK, api.ErrArg, api.ErrPrice, api.ErrRate} {
		if was[why] < 20 {
			t.Fatalf("Close answered %v only %d times", why, was[why])
		}
	}
	if calls < 200 || falls < 100 {
		t.Fatalf("only %d calls and %d falls", calls, falls)
	}
}

func margins(h *clearing.House) (all *big.Int, someOut bool) {
	all = new(big.Int)
	for _, s := range h.Standings() {
		all = sum(all, whole(s.Margin))
		someOut = someOut || s.Out
	}
	return all, someOut
}

func TestP22_10Zero(t *testing.T) {
	whole, shut := 0, 0
	for seed := range 40 {
		r := begin(t, seed+1000)
		for range 30 {
			for range r.x.Below(15) {
				r.step()
			}
			before, someOut := margins(r.h)
			had := r.m.own
			_, falls, why := r.close()
			after, nowOut := margins(r.h)
			if !someOut && !nowOut {
				Same(t, "all margins", decimal(after), decimal(before))
				whole++
			}
			if len(falls) == 0 || why != api.OK {
				Same(t, "Own", had.Cmp(number(r.h.Own())), 0)
			}
			for _, i := range things() {
				all := int64(0)
				for _, o := range owners() {
					all += r.h.Position(o, i)
				}
				Same(t, "all positions", all, 0)
			}
			shut++
		}
	}
	if whole < 100 || whole == shut {
		t.Fatalf("nobody was out at %d of %d closes", whole, shut)
	}
}

// Who falls was called at the close ahead; who is out stays as it is, and is neither called nor falls again.
func TestP22_11CalledFirst(t *testing.T) {
	for seed := range 40 {
		r := begin(t, seed+2000)
		var lastCalled []uint32
		gone := map[uint32]clearing.Standing{}
		for range 30 {
			for range r.x.Below(9) {
				r.step()
			}
			calls, falls, why := r.close()
			if why != api.OK {
				continue
			}
			for _, f := range falls {
				Same(t, "called at the close ahead", slices.Contains(lastCalled, f.Member), true)
				gone[f.Member] = clearing.Standing{}
			}
			lastCalled = nil
			for _, c := range calls {
				lastCalled = append(lastCalled, c.Member)
				_, isGone := gone[c.Member]
				Same(t, "a call of one that is out", isGone, false)
				if c.Have.Compare(c.Need) >= 0 {
					t.Fatalf("%d was called for nothing", c.Member)
				}
			}
			r.outStay(lastCalled, gone)
		}
	}
}

// outStay holds the standings against who was called and who is out, and keeps how these stand.
func (r *run) outStay(called []uint32, gone map[uint32]clearing.Standing) {
	r.t.Helper()
	for _, s := range r.h.Standings() {
		Same(r.t, "Called", s.Called, slices.Contains(called, s.Member))
		had, isGone := gone[s.Member]
		Same(r.t, "Out", s.Out, isGone)
		if !isGone {
			continue
		}
		if had.Member != 0 {
			Same(r.t, "one that is out", s, had)
		}
		gone[s.Member] = s
		for _, i := range things() {
			has(r.t, r.h, s.Member, i, 0)
		}
		Same(r.t, "Take", r.h.Take(deal(s.Member, s.Member, 1, 1)), api.ErrDefault)
		Same(r.t, "Pay", r.h.Pay(s.Member, 1), api.ErrDefault)
	}
}

// At a fall nothing of a fund or of the house's own is lost but what a cover tells, and the loss is what the member owed.
func TestP22_9Falls(t *testing.T) {
	losses := 0
	for seed := range 40 {
		r := begin(t, seed+3000)
		for range 30 {
			for range r.x.Below(9) {
				r.step()
			}
			before := sum(number(r.h.Own()), funds(r.h))
			_, falls, _ := r.close()
			borne := new(big.Int)
			for _, f := range falls {
				borne = sum(borne, number(f.Cover.Own), number(f.Cover.House))
				for _, n := range f.Cover.Others {
					borne = sum(borne, number(n))
				}
				if !strings.HasSuffix(told(nil, []clearing.Fall{f}), ": 0 0 [] 0;") {
					losses++
				}
			}
			Same(t, "funds and the house's own", decimal(sum(number(r.h.Own()), funds(r.h), borne)), decimal(before))
		}
	}
	if losses < 40 {
		t.Fatalf("only %d losses", losses)
	}
}

func funds(h *clearing.House) *big.Int {
	all := new(big.Int)
	for _, s := range h.Standings() {
		all = sum(all, number(s.Fund))
	}
	return all
}
