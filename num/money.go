package num

import (
	"math/bits"
	"strings"

	"bourse/api"
)

// Money is a signed amount of cents; the zero Money is none. (Each amount is one value, its two's complement in 128 bits, so that amounts can be compared by ==; -2^127 is none.)
type Money struct{ high, low uint64 }

// longestText is the bytes of the least amount's text: a minus, 39 digits, a point.
const longestText = 41

// topBit of the higher word is set in the amounts below 0.
const topBit = 1 << 63

// Cents is the amount of n cents.
func Cents(n int64) Money { return Money{high: uint64(n >> 63), low: uint64(n)} }

// Times is a price times a quantity.
func Times(price uint32, qty uint64) Money {
	high, low := bits.Mul64(uint64(price), qty)
	return Money{high: high, low: low}
}

// ParseMoney reads an amount's text.
func ParseMoney(s string) (Money, api.Errno) {
	if len(s) > longestText {
		return Money{}, api.ErrForm
	}
	digits, minus := strings.CutPrefix(s, "-")
	var m Money
	for i := range len(digits) {
		if digits[i] == '.' {
			continue
		}
		more, fits := m.behind(digits[i])
		if !fits {
			return Money{}, api.ErrForm
		}
		m = more
	}
	if minus {
		m = m.Neg()
	}
	if m.Text() != s { // whatever else is wrong (zeros ahead, points elsewhere, a minus of 0) is not the one form
		return Money{}, api.ErrForm
	}
	return m, api.OK
}

// behind is the amount with another decimal digit behind its own ones, if it is a digit and that is an amount.
func (m Money) behind(digit byte) (Money, bool) {
	if digit < '0' || digit > '9' {
		return Money{}, false
	}
	ten, why := m.Portion(10, 1, Down)
	if why != api.OK {
		return Money{}, false
	}
	more, why := ten.Add(Cents(int64(digit - '0')))
	return more, why == api.OK
}

// FromWords reads an amount's two words.
func FromWords(w [2]uint64) (Money, api.Errno) {
	m := Money{high: w[0], low: w[1]}
	if m.none() {
		return Money{}, api.ErrForm
	}
	return m, api.OK
}

// none is whether it is -2^127, which has no opposite in 128 bits and is no amount.
func (m Money) none() bool { return m == Money{high: topBit} }

// Add is the sum of two amounts, where it is one.
func (m Money) Add(n Money) (Money, api.Errno) {
	low, carry := bits.Add64(m.low, n.low, 0)
	high, _ := bits.Add64(m.high, n.high, carry)
	sum := Money{high: high, low: low}
	wrapped := (m.high^high)&(n.high^high)&topBit != 0 // both have the other sign
	if wrapped || sum.none() {
		return Money{}, api.ErrOver
	}
	return sum, api.OK
}

// Sub is the difference of two amounts, where it is one.
func (m Money) Sub(n Money) (Money, api.Errno) { return m.Add(n.Neg()) }

// Neg is the opposite amount.
func (m Money) Neg() Money {
	low, borrow := bits.Sub64(0, m.low, 0)
	high, _ := bits.Sub64(0, m.high, borrow)
	return Money{high: high, low: low}
}

// Sign is -1, 0, 1, as the amount is below, alike, above 0.
func (m Money) Sign() int {
	switch {
	case m == Money{}:
		return 0
	case m.high&topBit != 0:
		return -1
	}
	return 1
}

// Compare is -1, 0, 1, as m is below, alike, above n.
func (m Money) Compare(n Money) int {
	if m == n {
		return 0
	}
	less := m.low < n.low
	if m.high != n.high {
		less = int64(m.high) < int64(n.high) // the higher words alone have a sign
	}
	if less {
		return -1
	}
	return 1
}

// size is the amount without its sign.
func (m Money) size() Money {
	if m.Sign() < 0 {
		return m.Neg()
	}
	return m
}

// Text is the amount in decimal, with two digits behind a point.
func (m Money) Text() string {
	var text [longestText]byte
	at := len(text)
	rest := m.size()
	for place := 0; place < 3 || rest.Sign() != 0; place++ {
		if place == 2 {
			at--
			text[at] = '.'
		}
		var digit byte
		rest, digit = rest.lastDigit()
		at--
		text[at] = digit
	}
	if m.Sign() < 0 {
		at--
		text[at] = '-'
	}
	return string(text[at:])
}

// lastDigit takes the last decimal digit off an amount that is not below 0.
func (m Money) lastDigit() (rest Money, digit byte) {
	low, last := bits.Div64(m.high%10, m.low, 10)
	return Money{high: m.high / 10, low: low}, '0' + byte(last)
}

// Words is the amount modulo 2^128, the higher word first.
func (m Money) Words() [2]uint64 { return [2]uint64{m.high, m.low} }

// Portion is a part of an amount: times a, divided by b, its size rounded, where that is an amount.
func (m Money) Portion(a, b uint32, round int) (Money, api.Errno) {
	by := uint64(b)
	if why := divisible(by, round); why != api.OK {
		return Money{}, why
	}
	part, rest, fits := m.size().scaled(uint64(a), by)
	if !fits {
		return Money{}, api.ErrOver
	}
	if goesUp(part.low, rest, by, round) {
		var why api.Errno
		if part, why = part.Add(Cents(1)); why != api.OK {
			return Money{}, why
		}
	}
	if m.Sign() < 0 {
		part = part.Neg()
	}
	return part, api.OK
}

// scaled is an amount that is not below 0, times a, divided by b and rounded down, with what the division left, and whether that is an amount: both factors have at most 32 bits, so three words hold the product.
func (m Money) scaled(a, b uint64) (part Money, rest uint64, fits bool) {
	carried, low := bits.Mul64(m.low, a)
	high, middle := bits.Mul64(m.high, a)
	middle, carry := bits.Add64(middle, carried, 0)
	high += carry
	if high >= b {
		return Money{}, 0, false
	}
	part.high, rest = bits.Div64(high, middle, b)
	part.low, rest = bits.Div64(rest, low, b)
	return part, rest, part.high&topBit == 0
}
