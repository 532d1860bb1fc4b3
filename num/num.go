// Package num is layer 1: sums, products and parts of numbers that may not wrap; money: see DOC.md and doc/01-num.md.
package num

import (
	"math/bits"

	"bourse/api"
)

// How a part is rounded.
const (
	Down    = 0
	Up      = 1
	Nearest = 2
)

// Add is the sum of two numbers, where it fits.
func Add(a, b uint64) (uint64, api.Errno) {
	sum, carry := bits.Add64(a, b, 0)
	if carry != 0 {
		return 0, api.ErrOver
	}
	return sum, api.OK
}

// Sub is the difference of two numbers, where it is not below 0.
func Sub(a, b uint64) (uint64, api.Errno) {
	if a < b {
		return 0, api.ErrOver
	}
	return a - b, api.OK
}

// Mul is the product of two numbers, where it fits.
func Mul(a, b uint64) (uint64, api.Errno) {
	high, low := bits.Mul64(a, b)
	if high != 0 {
		return 0, api.ErrOver
	}
	return low, api.OK
}

// Sum is the sum of all numbers of a list, where it fits.
func Sum(l ...uint64) (uint64, api.Errno) {
	var sum uint64
	for _, n := range l {
		var why api.Errno
		if sum, why = Add(sum, n); why != api.OK {
			return 0, why
		}
	}
	return sum, api.OK
}

// Part is a times b divided by c, rounded, where it fits.
func Part(a, b, c uint64, round int) (uint64, api.Errno) {
	if why := divisible(c, round); why != api.OK {
		return 0, why
	}
	high, low := bits.Mul64(a, b)
	if high >= c { // the quotient has more than 64 bits: Div64 would panic
		return 0, api.ErrOver
	}
	whole, rest := bits.Div64(high, low, c)
	if goesUp(whole, rest, c, round) {
		return Add(whole, 1)
	}
	return whole, api.OK
}

// divisible is what is wrong with a divisor and a way of rounding.
func divisible(by uint64, round int) api.Errno {
	switch {
	case round != Down && round != Up && round != Nearest:
		return api.ErrArg
	case by == 0:
		return api.ErrDivide
	}
	return api.OK
}

// goesUp is whether a quotient that left a rest is rounded to the next whole number.
func goesUp(whole, rest, by uint64, round int) bool {
	switch round {
	case Up:
		return rest > 0
	case Nearest:
		lack := by - rest // held against the rest in place of a half: twice the rest might wrap
		return rest > lack || rest == lack && whole%2 == 1
	}
	return false
}
