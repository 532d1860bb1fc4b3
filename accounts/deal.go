package accounts

import (
	"bourse/api"
	"bourse/num"
)

// Book books a deal: its value and what it costs go from account to account, and both positions are as they are behind it.
func (l *Ledger) Book(d api.Deal) api.Errno {
	if why := l.bookable(d); why != api.OK {
		return why
	}
	value := num.Times(uint32(d.Price), d.Qty)
	bought := l.Position(d.Buyer, d.Instrument).behind(int64(d.Qty), value.Neg())
	before := l.Position(d.Seller, d.Instrument)
	if d.Seller == d.Buyer { // it sells what it just bought
		before = bought
	}
	sold := before.behind(-int64(d.Qty), value)
	if size(bought.Qty) > api.MaxQty || size(sold.Qty) > api.MaxQty {
		return api.ErrOver
	}
	l.enter(cash(d.Buyer), cash(d.Seller), value)
	l.charge(d.Buyer, value, d.Taker == api.Buy)
	l.charge(d.Seller, value, d.Taker == api.Sell)
	l.hold(d.Buyer, d.Instrument, bought)
	l.hold(d.Seller, d.Instrument, sold)
	return api.OK
}

// bookable is why a deal can't be booked, whatever positions there are.
func (l *Ledger) bookable(d api.Deal) api.Errno {
	switch {
	case !l.isOpen(d.Buyer) || !l.isOpen(d.Seller):
		return api.ErrNobody
	case d.Taker != api.Buy && d.Taker != api.Sell:
		return api.ErrSide
	case !isPrice(d.Price):
		return api.ErrPrice
	case d.Qty < 1 || d.Qty > api.MaxQty:
		return api.ErrQty
	}
	return api.OK
}

// charge brings what a trade of a value costs a member to the house.
func (l *Ledger) charge(member uint32, value num.Money, takes bool) {
	rate := l.tariff.Maker
	if takes {
		rate = l.tariff.Taker
	}
	fee, _ := value.Portion(rate, l.tariff.By, num.Up) // at most the value, as no rate is above By
	l.enter(cash(member), api.Account{Kind: api.House}, fee)
}

func isPrice(price int) bool { return 0 <= price && price < api.Ticks }
