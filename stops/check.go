package stops

import (
	"slices"

	"bourse/api"
	"bourse/rules"
)

func mostCanBe(most int) bool { return most >= 0 && most <= api.MaxStops }

func isPrice(price int) bool { return price >= 0 && price < api.Ticks }

// check tells what a stop order is refused for, by itself.
func check(s api.Stop) api.Errno {
	// The order has no ID yet: that it may have one does not hang on the stop order.
	if why := rules.Check(commandOf(s, 1)); why != api.OK {
		return why
	}
	if !isPrice(s.Trigger) {
		return api.ErrTrigger
	}
	return api.OK
}

// refusal is what a stop order is refused for here, or OK.
func (b *Book) refusal(s api.Stop) api.Errno {
	why := check(s)
	switch {
	case why != api.OK:
		return why
	case s.Number <= b.kept.High:
		return api.ErrNumber
	case len(b.kept.List) >= b.kept.Most:
		return api.ErrWaiting
	}
	return api.OK
}

// canBe tells whether a Book can come to keep this.
func canBe(s api.Stops) bool {
	if !mostCanBe(s.Most) || len(s.List) > s.Most || !numbersRise(s.List, s.High) {
		return false
	}
	if !isPrice(s.Last) || !s.HasLast && s.Last != 0 {
		return false
	}
	wrong := func(w api.Stop) bool { return check(w) != api.OK }
	return !slices.ContainsFunc(s.List, wrong) && !slices.ContainsFunc(s.List, metIn(s))
}

// numbersRise tells whether each number is above the one ahead of it, from 1 to high.
func numbersRise(l []api.Stop, high uint64) bool {
	var ahead uint64
	for _, s := range l {
		if s.Number <= ahead || s.Number > high {
			return false
		}
		ahead = s.Number
	}
	return true
}
