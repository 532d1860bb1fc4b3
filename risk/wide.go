package risk

import "math/bits"

// wide is a whole number below 2^128.
type wide struct{ high, low uint64 }

// total is the sum of some numbers.
func total(l ...uint64) wide {
	var w wide
	for _, n := range l {
		w = w.plus(n)
	}
	return w
}

// product is one number times another.
func product(a, b uint64) wide {
	high, low := bits.Mul64(a, b)
	return wide{high, low}
}

// plus is a number and another one together.
func (w wide) plus(n uint64) wide {
	low, carry := bits.Add64(w.low, n, 0)
	return wide{w.high + carry, low}
}

// above tells whether a number is the greater one of two.
func (w wide) above(v wide) bool {
	return w.high > v.high || w.high == v.high && w.low > v.low
}
