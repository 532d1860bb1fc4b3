package num

import (
	"cmp"
	"math/bits"
	"slices"

	"bourse/api"
)

// Share cuts an amount into parts in the proportion of weights, so that nothing of it is lost.
func Share(amount uint64, weights []uint64) ([]uint64, api.Errno) {
	if len(weights) == 0 {
		return nil, api.ErrArg
	}
	sum, why := Sum(weights...)
	if why != api.OK {
		return nil, why
	}
	if sum == 0 {
		return nil, api.ErrDivide
	}
	parts, rests, left := cut(amount, weights, sum)
	// What is left is the rests' sum divided by the weights' sum: fewer units than there are rests above 0.
	for _, i := range greatestFirst(rests)[:left] {
		parts[i]++
	}
	return parts, api.OK
}

// cut is each weight's part rounded down, the remainder of that division, and what is left of the amount.
func cut(amount uint64, weights []uint64, sum uint64) (parts, rests []uint64, left uint64) {
	parts = make([]uint64, len(weights))
	rests = make([]uint64, len(weights))
	left = amount
	for i, weight := range weights {
		high, low := bits.Mul64(amount, weight)
		parts[i], rests[i] = bits.Div64(high, low, sum) // fits: no weight is above their sum
		left -= parts[i]
	}
	return parts, rests, left
}

// greatestFirst is the places of the rests, the greatest rest's first, of alike ones the earlier place first.
func greatestFirst(rests []uint64) []int {
	places := make([]int, len(rests))
	for i := range places {
		places[i] = i
	}
	slices.SortStableFunc(places, func(i, j int) int { return cmp.Compare(rests[j], rests[i]) })
	return places
}
