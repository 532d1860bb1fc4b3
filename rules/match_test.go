package rules_test

import (
	"testing"

	"bourse/api"
	. "bourse/sample"
)

func TestP9_3AsTheModelTells(t *testing.T) {
	seen := map[[2]int]int{}
	for capacity := 1; capacity <= 12; capacity += 1 + capacity/4 {
		for meet := range 4 {
			mix := Mixer(1000*capacity + meet)
			c := api.Config{Capacity: capacity, Meet: meet}
			b, want := made(t, c), &model{config: c}
			for step := range long / 4 {
				do := Wild(&mix, want.high, 1+meet+mix.Below(6))
				if do.ID > 1<<62 {
					do.ID = want.high
				}
				l := want.do(do)
				for _, e := range l {
					seen[[2]int{e.Kind, e.Reason + int(e.Code)}]++
				}
				SameList(t, "Do", b.Do(do), l)
				if step%8 == 0 {
					looked(t, b, want)
				}
			}
			looked(t, b, want)
		}
	}
	for _, e := range [][2]int{{1, 0}, {3, 0}, {5, 0}, {4, 1}, {4, 2}, {4, 3}, {4, 4}, {4, 5}, {2, 90}, {2, 91}, {2, 92}, {2, 93}, {2, 94}, {2, 95}, {2, 96}, {2, 97}, {2, 98}, {2, 99}} {
		if seen[e] < 20 {
			t.Errorf("the event %v was told %d times", e, seen[e])
		}
	}
}
