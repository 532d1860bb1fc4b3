package surveil_test

import (
	"slices"
	"testing"

	"bourse/api"
	. "bourse/sample"
	"bourse/snapshot"
	"bourse/surveil"
)

// Whatever is told, in whatever pieces, and whatever is closed in between, the watch answers as the model does.
func TestP29_2Model(t *testing.T) {
	rules, others, closed := map[int]int{}, 0, 0
	for seed := range 60 {
		x := Mixer(seed)
		how := wildWatching(&x)
		w, m := watch(t, how), &model{how: how}
		for i := range 150 {
			l := wildEvents(&x, x.Below(5))
			var want []api.Alert
			for _, e := range l {
				want = append(want, m.add(e)...)
			}
			finds(t, w, l, want...)
			for _, a := range want {
				rules[a.Rule]++
			}
			if x.Below(12) == 0 {
				rule, member := 1+x.Below(4), Pick(&x, people()...)
				got, why := w.Close(rule, member)
				n, whyNot := m.shut(rule, member)
				Same(t, "Close", got, n)
				Same(t, "Close", why, whyNot)
				closed += min(n, 1)
				others += max(n-1, 0)
			}
			if i%30 == 0 {
				agrees(t, w, m)
			}
		}
		agrees(t, w, m)
	}
	for rule := 1; rule <= 4; rule++ {
		if rules[rule] < 100 {
			t.Fatalf("of the rules hardly any alerts: %v", rules)
		}
	}
	if closed < 50 || others < 10 {
		t.Fatalf("only %d calls closed cases, and %d more than one", closed, others)
	}
}

// The same events in other pieces come to the same.
func TestP29_5Pieces(t *testing.T) {
	for seed := range 40 {
		x := Mixer(seed + 1000)
		how := wildWatching(&x)
		l := wildEvents(&x, 600)
		whole, single, pieces := watch(t, how), watch(t, how), watch(t, how)
		want := whole.Add(l)
		var one, some []api.Alert
		for _, e := range l {
			one = append(one, single.Add([]api.Event{e})...)
		}
		for rest := l; len(rest) > 0; {
			n := min(x.Below(40), len(rest))
			some = append(some, pieces.Add(rest[:n])...)
			rest = rest[n:]
		}
		SameList(t, "one by one", one, want)
		SameList(t, "in pieces", some, want)
		for _, w := range []*surveil.Watch{single, pieces} {
			Same(t, "Count", w.Count(), whole.Count())
			SameList(t, "Members", w.Members(), whole.Members())
			SameList(t, "Cases", w.Cases(), whole.Cases())
			for _, n := range people() {
				Same(t, "Profile", w.Profile(n), whole.Profile(n))
			}
		}
	}
}

// log is what a book of that kind tells of likely commands of the members 0 to 3.
func log(t *testing.T, x *Mixer, kind, meet, n int) []api.Event {
	t.Helper()
	e, why := snapshot.Make(kind, api.Config{Capacity: 30, Meet: meet})
	Same(t, "Make", why, api.OK)
	var told []api.Event
	for range n {
		told = append(told, e.Do(Likely(x, e.Book().High, 20))...)
	}
	return told
}

// washes is how often a member trades with itself by a log alone.
func washes(l []api.Event) []uint64 {
	of := map[uint64]uint32{}
	var at []uint64
	for i, e := range l {
		if e.Kind == 1 {
			of[e.ID] = e.Member
		}
		if e.Kind == 3 && of[e.ID] == of[e.Other] && of[e.ID] != 0 {
			at = append(at, uint64(i+1))
		}
	}
	return at
}

func TestP29_6Wash(t *testing.T) {
	found := 0
	for seed := range 24 {
		x := Mixer(seed)
		kind, meet := Kinds()[seed%3], seed/3%4
		l := log(t, &x, kind, meet, 500)
		w, want := watch(t, wildWatching(&x)), washes(l)
		var at []uint64
		for _, a := range w.Add(l) {
			if a.Rule != api.RuleWash {
				continue
			}
			at = append(at, a.At)
			Same(t, "the order", a.Order, l[a.At-1].ID)
			Same(t, "its count", a.Count, 0)
		}
		SameList(t, "washes", at, want)
		if meet != api.MeetTrade {
			SameList(t, "washes of a book that lets none be", at, nil)
		}
		found += len(at)
	}
	if found < 100 {
		t.Fatalf("only %d washes", found)
	}
}

// asCases ends a test where the cases are not those of these alerts.
func asCases(t *testing.T, w *surveil.Watch, alerts []api.Alert) {
	t.Helper()
	counts := map[uint32]int{}
	for _, c := range w.Cases() {
		counts[c.Member] += c.Count
		in := 0
		for _, a := range alerts {
			if a.Rule == c.Rule && a.Member == c.Member && a.At >= c.First && a.At <= c.Last {
				in++
			}
		}
		Same(t, "alerts of a case", in, c.Count)
	}
	sum := 0
	for _, n := range w.Members() {
		Same(t, "Alerts", counts[n], w.Profile(n).Alerts)
		sum += counts[n]
	}
	Same(t, "all alerts", sum, len(alerts))
}

func TestP29_7Cases(t *testing.T) {
	all := 0
	for seed := range 40 {
		x := Mixer(seed + 2000)
		w := watch(t, wildWatching(&x))
		var alerts []api.Alert
		for range 60 {
			alerts = append(alerts, w.Add(wildEvents(&x, x.Below(12)))...)
			if x.Below(4) == 0 {
				w.Close(1+x.Below(4), Pick(&x, people()...))
			}
		}
		alerts = append(alerts, w.Add(log(t, &x, api.List, api.MeetTrade, 300))...)
		asCases(t, w, alerts)
		all += len(w.Cases())
	}
	if all < 500 {
		t.Fatalf("only %d cases", all)
	}
}

// alone is a log in which all that does not tell of a member's own orders is something else. (That an order's number is taken by another one tells of it.)
func alone(l []api.Event, member uint32) []api.Event {
	of := map[uint64]uint32{}
	out := slices.Clone(l)
	for i, e := range l {
		was := of[e.ID]
		if e.Kind == api.EvAck {
			of[e.ID] = e.Member
		}
		if was != member && of[e.ID] != member && (e.Kind != api.EvTrade || of[e.Other] != member) {
			out[i] = api.Event{Kind: 9, ID: e.ID, Member: member}
		}
	}
	return out
}

// own is the alerts of a member by other rules than Jump.
func own(l []api.Alert, member uint32) []api.Alert {
	return slices.DeleteFunc(slices.Clone(l), func(a api.Alert) bool { return a.Member != member || a.Rule == api.RuleJump })
}

func TestP29_8NobodyElse(t *testing.T) {
	rules := map[int]int{}
	for seed := range 60 {
		x := Mixer(seed + 3000)
		how := wildWatching(&x)
		l := wildEvents(&x, 500)
		if seed%2 == 0 {
			l = log(t, &x, Kinds()[seed/2%3], api.MeetTrade, 500)
		}
		want := watch(t, how).Add(l)
		for _, n := range []uint32{1, 2, 3, 7, last} {
			SameList(t, "alerts", own(watch(t, how).Add(alone(l, n)), n), own(want, n))
		}
		for _, a := range want {
			rules[a.Rule]++
		}
	}
	for rule := 1; rule <= 3; rule++ {
		if rules[rule] < 50 {
			t.Fatalf("of the rules hardly any alerts: %v", rules)
		}
	}
}

// Nothing that is handed in or answered is shared; two watches know nothing of one another.
func TestP29_2Memory(t *testing.T) {
	for seed := range 20 {
		x := Mixer(seed + 4000)
		how := wildWatching(&x)
		w, other, m := watch(t, how), watch(t, how), &model{how: how}
		for range 60 {
			l := append(make([]api.Event, 0, 9), wildEvents(&x, x.Below(8))...)
			was := slices.Clone(l[:cap(l)])
			var want []api.Alert
			for _, e := range l {
				want = append(want, m.add(e)...)
			}
			got := w.Add(l)
			SameList(t, "what is handed in", l[:cap(l)], was)
			Spoil(l, api.Event{Kind: api.EvTrade, Price: 7})
			SameList(t, "Add", got, want)
			Spoil(got, alert(9, 9, 9, 9, 9))
			Spoil(w.Cases(), api.Case{Rule: 9, Open: true})
			Spoil(w.Members(), 5)
			other.Add(wildEvents(&x, x.Below(4)))
		}
		agrees(t, w, m)
	}
}

// A watch that New has not made finds nothing.
func TestP29_1NotMade(t *testing.T) {
	var w surveil.Watch
	x := Mixer(5)
	finds(t, &w, wildEvents(&x, 100))
	SameList(t, "Members", w.Members(), nil)
	SameList(t, "Cases", w.Cases(), nil)
	Same(t, "Profile", w.Profile(1), api.Profile{})
	_, why := w.Close(api.RuleWash, 1)
	Same(t, "Close", why, api.ErrCase)
}

// What a watch looks back on costs no more where it looks far.
func TestP29_5Long(t *testing.T) {
	w := watch(t, api.Watching{Span: 1000, Layers: 900, Ratio: 1000, Least: 1000, Move: 1})
	x := Mixer(6)
	l := []api.Event{acked(1, 7, api.Buy), acked(2, 8, api.Sell), acked(3, 7, api.Buy), acked(4, 7, api.Sell)}
	for range 300_000 {
		l = append(l, Pick(&x, pulled(3), pulled(4), Traded(1, 2, Pick(&x, 1, 2), 10, 1)))
	}
	found := w.Add(l)
	Same(t, "alerts", len(found), 0)
	Same(t, "Count", w.Count(), 300_004)
	p := w.Profile(7)
	Same(t, "all", p.Cancels+p.Trades, 300_000)
}
