package console

import (
	"math/big"
	"slices"

	"bourse/api"
	"bourse/num"
)

// Stats is what trades told.
type Stats struct {
	trades []trade
}

type trade struct {
	price int
	qty   uint64
}

// NewStats: no trades.
func NewStats() *Stats { return &Stats{} }

// Add is told events, of which only the trades count.
func (s *Stats) Add(l []api.Event) {
	for _, e := range l {
		if e.Kind == api.EvTrade {
			s.trades = append(s.trades, trade{e.Price, e.Qty})
		}
	}
}

// Day is the bar of all trades.
func (s *Stats) Day() api.Bar { return bar(s.trades) }

// Bars is the trades cut into bars of so many; the last one has what is left.
func (s *Stats) Bars(each int) []api.Bar {
	if each < 1 {
		return nil
	}
	var out []api.Bar
	for l := range slices.Chunk(s.trades, each) {
		out = append(out, bar(l))
	}
	return out
}

func bar(l []trade) api.Bar {
	if len(l) == 0 {
		return api.Bar{}
	}
	first, last := l[0].price, l[len(l)-1].price
	b := api.Bar{Open: first, High: first, Low: first, Close: last, Trades: len(l)}
	for _, t := range l {
		b.High, b.Low = max(b.High, t.price), min(b.Low, t.price)
		b.Volume += t.qty
	}
	return b
}

// counted is the price with which a trade counts where prices are summed up.
func (t trade) counted() uint32 {
	if t.price < 0 || t.price >= api.Ticks {
		return 0
	}
	return uint32(t.price)
}

// Turnover is the sum of price times quantity of all trades.
func (s *Stats) Turnover() num.Money {
	var sum num.Money
	for _, t := range s.trades {
		if more, why := sum.Add(num.Times(t.counted(), t.qty)); why == api.OK {
			sum = more
		}
	}
	return sum
}

// Mean is the mean price of all that was traded, in hundredths of a tick. (It always fits: no price counts with more than Ticks - 1.)
func (s *Stats) Mean() (uint64, bool) {
	worth, qty := new(big.Int), new(big.Int)
	for _, t := range s.trades {
		n := new(big.Int).SetUint64(t.qty)
		qty.Add(qty, n)
		worth.Add(worth, n.Mul(n, big.NewInt(100*int64(t.counted()))))
	}
	if qty.Sign() == 0 {
		return 0, false
	}
	return nearest(worth, qty).Uint64(), true
}

// nearest is a divided by b, neither of them below 0, rounded to the nearest whole number, of two as near to the even one.
func nearest(a, b *big.Int) *big.Int {
	n, rest := new(big.Int).QuoRem(a, b, new(big.Int))
	twice := rest.Lsh(rest, 1).Cmp(b)
	if twice > 0 || twice == 0 && n.Bit(0) == 1 {
		n.Add(n, big.NewInt(1))
	}
	return n
}
