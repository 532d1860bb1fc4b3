package clearing_test

import (
	"fmt"
	"math/big"
	"slices"
	"testing"

	"bourse/api"
	"bourse/clearing"
	. "bourse/sample"
)

func text(c api.Cover) string { return fmt.Sprintf("%d %d %v %d", c.Own, c.House, c.Others, c.Left) }

func TestP22_3Bear(t *testing.T) {
	two := []api.Fund{fund(5, 10), fund(6, 30)}
	for _, x := range []struct {
		loss, own, house uint64
		others           []api.Fund
		want             string
	}{
		{100, 30, 50, two, "30 50 [5 15] 0"}, {1000, 30, 50, two, "30 50 [10 30] 880"}, {0, 30, 50, two, "0 0 [0 0] 0"},
		{29, 30, 50, two, "29 0 [0 0] 0"}, {30, 30, 50, two, "30 0 [0 0] 0"}, {31, 30, 50, two, "30 1 [0 0] 0"}, {80, 30, 50, two, "30 50 [0 0] 0"}, {81, 30, 50, two, "30 50 [0 1] 0"},
		{119, 30, 50, two, "30 50 [10 29] 0"}, {120, 30, 50, two, "30 50 [10 30] 0"}, {121, 30, 50, two, "30 50 [10 30] 1"}, {82, 30, 50, two, "30 50 [1 1] 0"},
		{5, 0, 0, nil, "0 0 [] 5"}, {5, 0, 3, []api.Fund{}, "0 3 [] 2"}, {5, 0, 3, []api.Fund{fund(1, 0)}, "0 3 [0] 2"}, {5, 1, 1, []api.Fund{fund(1, 0), fund(0, 0)}, "1 1 [0 0] 3"},
		{7, 0, 0, []api.Fund{fund(3, 1), fund(2, 0), fund(3, 1), fund(1, 1)}, "0 0 [1 0 1 1] 4"}, {2, 0, 0, []api.Fund{fund(3, 5), fund(2, 0), fund(1, 5), fund(1, 5)}, "0 0 [1 0 1 0] 0"},
		{top, top, 5, two, "18446744073709551615 0 [0 0] 0"}, {top, 0, top, two, "0 18446744073709551615 [0 0] 0"}, {top, 0, 0, two, "0 0 [10 30] 18446744073709551575"},
		{top, 1, 1, []api.Fund{fund(1, top)}, "1 1 [18446744073709551613] 0"}, {top, 0, 0, []api.Fund{fund(1, 1<<63), fund(2, 1<<63-1)}, "0 0 [9223372036854775808 9223372036854775807] 0"},
		{top, top, top, []api.Fund{fund(1, top)}, "18446744073709551615 0 [0] 0"}, {0, 0, 0, nil, "0 0 [] 0"},
	} {
		c, why := clearing.Bear(x.loss, x.own, x.house, x.others)
		Same(t, "Bear", why, api.OK)
		Same(t, "Bear", text(c), x.want)
	}
}

func TestP22_3Over(t *testing.T) {
	for _, others := range [][]api.Fund{
		{fund(1, 1<<63), fund(2, 1<<63)}, {fund(1, top), fund(2, 1)}, {fund(1, 1), fund(2, 0), fund(3, top)}, {fund(1, top), fund(1, top), fund(1, 2)},
	} {
		for _, loss := range []uint64{0, 1, top} { // be there a loss or not
			c, why := clearing.Bear(loss, 5, 5, others)
			Same(t, "Bear", why, api.ErrOver)
			Same(t, "Bear", text(c), "0 0 [] 0")
		}
	}
}

// The others are shared by their cents alone, in the order in which they stand, and stay as they are.
func TestP22_3Memory(t *testing.T) {
	l := []api.Fund{fund(9, 1), fund(1, 1), fund(9, 1)}
	given := slices.Clone(l)
	a, _ := clearing.Bear(2, 0, 0, l)
	b, _ := clearing.Bear(2, 0, 0, l)
	Same(t, "Bear", text(a), "0 0 [1 1 0] 0")
	Spoil(a.Others, 77)
	Same(t, "another answer", text(b), "0 0 [1 1 0] 0")
	SameList(t, "the others", l, given)
}

func TestP22_9Borne(t *testing.T) {
	x := Mixer(3)
	amount := func() uint64 { return x.Next() >> Pick(&x, 3, 40, 58, 62, 63) }
	for range 6000 {
		loss, own, house := amount(), amount(), amount()
		var others []api.Fund
		var funds []*big.Int
		for range x.Below(6) {
			f := fund(uint32(x.Below(9)), amount()/8)
			others, funds = append(others, f), append(funds, number(f.Cents))
		}
		c, why := clearing.Bear(loss, own, house, others)
		Same(t, "Bear", why, api.OK)
		Same(t, "Bear", text(c), bears(number(loss), number(own), number(house), funds).text())
		Same(t, "one each", len(c.Others), len(others))
		borne, all := sum(number(c.Own), number(c.House), number(c.Left)), new(big.Int)
		for i, n := range c.Others {
			if n > others[i].Cents || c.Left > 0 && n < others[i].Cents {
				t.Fatalf("%+v bears %d, and %d is left", others[i], n, c.Left)
			}
			borne, all = sum(borne, number(n)), sum(all, number(n))
		}
		Same(t, "all together", borne.Cmp(number(loss)), 0)
		further := all.Sign() > 0 || c.Left > 0
		if c.Own > own || c.House > house || (c.House > 0 || further) && c.Own < own || further && c.House < house {
			t.Fatalf("Bear(%d, %d, %d, %v): %+v", loss, own, house, others, c)
		}
	}
}
