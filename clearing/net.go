package clearing

import (
	"maps"
	"slices"

	"bourse/api"
	"bourse/num"
)

// Net is what a member's deals in an instrument come to: what it bought and sold, and what it has to pay (below 0: to get).
type Net struct {
	Member, Instrument uint32
	Bought, Sold       uint64
	Pay                num.Money
}

// Due is what a member has to pay in all (below 0: to get).
type Due struct {
	Member uint32
	Pay    num.Money
}

// Netted is what deals come to, member by member, instrument by instrument.
func Netted(l []api.Deal) ([]Net, api.Errno) {
	nets := map[holding]Net{}
	for _, d := range l {
		if d.Buyer == 0 || d.Seller == 0 {
			return nil, api.ErrNobody
		}
		if why := badTerms(d); why != api.OK {
			return nil, why
		}
		count(nets, d)
	}
	var out []Net
	for _, of := range slices.SortedFunc(maps.Keys(nets), holding.compare) {
		n := nets[of]
		n.Member, n.Instrument = of.member, of.instrument
		out = append(out, n)
	}
	return out, api.OK
}

// count adds a deal to what its two sides come to, one behind the other: they may be one.
func count(nets map[holding]Net, d api.Deal) {
	buyer, seller := holding{d.Buyer, d.Instrument}, holding{d.Seller, d.Instrument}
	n := nets[buyer]
	n.Bought += d.Qty
	n.Pay = plus(n.Pay, value(d))
	nets[buyer] = n
	n = nets[seller]
	n.Sold += d.Qty
	n.Pay = less(n.Pay, value(d))
	nets[seller] = n
}

// Dues is what each member has to pay in all, where that is an amount.
func Dues(l []Net) ([]Due, api.Errno) {
	pays := map[uint32]num.Money{}
	for _, n := range l {
		sum, why := pays[n.Member].Add(n.Pay)
		if why != api.OK {
			return nil, why
		}
		pays[n.Member] = sum
	}
	var out []Due
	for _, m := range slices.Sorted(maps.Keys(pays)) {
		out = append(out, Due{Member: m, Pay: pays[m]})
	}
	return out, api.OK
}
