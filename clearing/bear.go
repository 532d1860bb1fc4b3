package clearing

import (
	"bourse/api"
	"bourse/num"
)

// Bear is how a loss is borne: by the member's own fund, then by the house, then by the others together; what nobody has is left.
func Bear(loss, own, house uint64, others []api.Fund) (api.Cover, api.Errno) {
	weights := make([]uint64, len(others))
	for i, f := range others {
		weights[i] = f.Cents
	}
	all, why := num.Sum(weights...)
	if why != api.OK {
		return api.Cover{}, why
	}
	c := api.Cover{Own: min(loss, own)}
	c.House = min(loss-c.Own, house)
	left := loss - c.Own - c.House
	c.Others = shared(min(left, all), weights)
	c.Left = left - min(left, all)
	return c, api.OK
}

// shared is what each one bears of an amount, which is at most what they have together.
func shared(amount uint64, weights []uint64) []uint64 {
	parts, why := num.Share(amount, weights)
	if why != api.OK { // nobody has anything, so that there is nothing to share either
		return make([]uint64, len(weights))
	}
	return parts
}
