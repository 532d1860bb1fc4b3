package surveil

import (
	"slices"

	"bourse/api"
)

// about is what a case is of.
type about struct {
	rule   int
	member uint32
}

// file counts an alert for its member, and lays it into its case.
func (w *Watch) file(a api.Alert) {
	w.traders[a.Member].Alerts++
	of := about{a.Rule, a.Member}
	if open := w.open[of]; len(open) > 0 {
		if c := &w.cases[open[len(open)-1]]; a.At-c.Last <= uint64(w.how.Span) {
			c.Last = a.At
			c.Count++
			return
		}
	}
	w.open[of] = append(w.open[of], len(w.cases))
	w.cases = append(w.cases, api.Case{Rule: a.Rule, Member: a.Member, First: a.At, Last: a.At, Count: 1, Open: true})
}

// Cases is all cases, in the order in which they were opened.
func (w *Watch) Cases() []api.Case { return slices.Clone(w.cases) }

// Close closes those of a rule and a member that are open: how many.
func (w *Watch) Close(rule int, member uint32) (int, api.Errno) {
	of := about{rule, member}
	open := w.open[of]
	if len(open) == 0 {
		return 0, api.ErrCase
	}
	for _, i := range open {
		w.cases[i].Open = false
	}
	delete(w.open, of)
	return len(open), api.OK
}
