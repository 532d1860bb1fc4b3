package bands

import "bourse/api"

// span is the prices from one to another, both of them too.
type span struct{ from, to int }

// about is the prices that differ from one by at most a width.
func about(price, width int) span { return span{price - width, price + width} }

func (s span) has(price int) bool { return price >= s.from && price <= s.to }

// staticOf is where every price must be.
func staticOf(b api.Band) span { return about(b.Reference, b.Static) }

// dynamicOf is where trades must be, too.
func dynamicOf(b api.Band) span {
	if b.HasLast {
		return about(b.Last, b.Dynamic)
	}
	return about(b.Reference, b.Dynamic)
}

func isPrice(price int) bool { return price >= 0 && price < api.Ticks }

func isWidth(width int) bool { return width >= 0 && width <= api.Ticks }

// canBe tells whether a Guard can come to keep this.
func canBe(b api.Band) bool {
	if !isPrice(b.Reference) || !isWidth(b.Static) || !isWidth(b.Dynamic) {
		return false
	}
	return isPrice(b.Last) && (b.HasLast || b.Last == 0)
}
