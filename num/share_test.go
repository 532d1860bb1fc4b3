package num_test

import (
	"math/big"
	"slices"
	"testing"

	"bourse/api"
	"bourse/num"
)

// shared is Share by whole numbers, the units handed out one by one to whoever has the greatest remainder that got none.
func shared(amount uint64, weights []uint64) []uint64 {
	sum := new(big.Int)
	for _, w := range weights {
		sum.Add(sum, whole(w))
	}
	parts := make([]uint64, len(weights))
	rests := make([]*big.Int, len(weights))
	left := amount
	for i, w := range weights {
		q, r := new(big.Int).QuoRem(new(big.Int).Mul(whole(amount), whole(w)), sum, new(big.Int))
		parts[i], rests[i] = q.Uint64(), r
		left -= parts[i]
	}
	for ; left > 0; left-- {
		best := 0
		for i := range rests {
			if rests[i].Cmp(rests[best]) > 0 {
				best = i
			}
		}
		parts[best]++
		rests[best] = big.NewInt(-1)
	}
	return parts
}

// weightLists are lists whose sums are counts: alike ones, with 0 among them, up to the greatest sum.
func weightLists() [][]uint64 {
	l := [][]uint64{
		{1}, {5}, {most}, {1, 1, 1}, {3, 0, 3, 1}, {0, 0, 7}, {7, 0, 0}, {0, 1, 0, 1, 0}, {most, 0}, {0, most}, {most - 1, 1}, {1, most - 1},
		{1 << 63, 1<<63 - 1}, {most / 3, most / 3, most / 3}, {1, 1, 1, 1, 1, 1, 1}, {2, 1, 2, 1, 2, 1}, {1, 2, 3, 4, 5, 6, 7}, {5, 4, 3, 2, 1, 0},
	}
	x := mixer(5)
	for range 300 {
		w := make([]uint64, 1+x.next()%40)
		for i := range w {
			w[i] = x.count() / uint64(len(w))
			if x.next()%3 == 0 {
				w[i] %= 4
			}
		}
		w[0]++
		l = append(l, w)
	}
	alike := make([]uint64, 1000) // more than a sort holds together by chance
	for i := range alike {
		alike[i] = uint64(3 + i%2)
	}
	return append(l, alike)
}

func shareAmounts() []uint64 {
	x := mixer(6)
	l := edges()
	for range 10 {
		l = append(l, x.count())
	}
	return append(l, 333, 1001, 1750)
}

func TestP1_3(t *testing.T) {
	for _, w := range weightLists() {
		for _, amount := range shareAmounts() {
			got, why := num.Share(amount, w)
			if want := shared(amount, w); why != api.OK || !slices.Equal(got, want) {
				t.Fatal(amount, w, "wanted:", want, "got:", got, why)
			}
		}
	}
}

func TestP1_3Alike(t *testing.T) {
	for _, x := range []struct {
		amount        uint64
		weights, want []uint64
	}{
		{100, []uint64{1, 1, 1}, []uint64{34, 33, 33}}, {101, []uint64{1, 1, 1}, []uint64{34, 34, 33}}, {1, []uint64{1, 1}, []uint64{1, 0}},
		{1, []uint64{0, 1, 1}, []uint64{0, 1, 0}}, {10, []uint64{3, 0, 3, 1}, []uint64{4, 0, 4, 2}}, {1, []uint64{1, 2}, []uint64{0, 1}},
		{0, []uint64{5}, []uint64{0}}, {0, []uint64{0, 5}, []uint64{0, 0}}, {most, []uint64{most}, []uint64{most}},
		{most, []uint64{1 << 63, 1<<63 - 1}, []uint64{1 << 63, 1<<63 - 1}}, {1, []uint64{most - 1, 1}, []uint64{1, 0}},
		{most, []uint64{1, 1}, []uint64{1 << 63, 1<<63 - 1}}, {3, []uint64{0, 0, 1, 0}, []uint64{0, 0, 3, 0}},
	} {
		if l, why := num.Share(x.amount, x.weights); why != api.OK || !slices.Equal(l, x.want) {
			t.Error(x, l, why)
		}
	}
}

func TestP1_3Wrong(t *testing.T) {
	for _, x := range []struct {
		weights []uint64
		why     api.Errno
	}{
		{nil, api.ErrArg}, {[]uint64{}, api.ErrArg}, {[]uint64{most, 1}, api.ErrOver}, {[]uint64{1, most}, api.ErrOver},
		{[]uint64{1 << 63, 1 << 63}, api.ErrOver}, {[]uint64{most, 1, most}, api.ErrOver}, {[]uint64{0}, api.ErrDivide}, {[]uint64{0, 0, 0}, api.ErrDivide},
	} {
		for _, amount := range []uint64{0, 1, most} {
			if l, why := num.Share(amount, x.weights); len(l) != 0 || why != x.why {
				t.Error(amount, x, l, why)
			}
		}
	}
}

func TestP1_3Memory(t *testing.T) {
	room := []uint64{3, 0, 3, 1, 77, 78}
	l, _ := num.Share(10, room[:4])
	again, _ := num.Share(10, room[:4])
	for i := range l[:cap(l)] {
		l[:cap(l)][i] = 55
	}
	if !slices.Equal(room, []uint64{3, 0, 3, 1, 77, 78}) || !slices.Equal(again, []uint64{4, 0, 4, 2}) {
		t.Error(room, again)
	}
}

func TestP1_8(t *testing.T) {
	for _, w := range weightLists() {
		sum, _ := num.Sum(w...)
		for _, amount := range shareAmounts() {
			l, why := num.Share(amount, w)
			if why != api.OK || len(l) != len(w) {
				t.Fatal(amount, w, l, why)
			}
			if n, e := num.Sum(l...); n != amount || e != api.OK {
				t.Fatal("lost:", amount, w, l)
			}
			for i, part := range l {
				down, _ := num.Part(amount, w[i], sum, num.Down)
				up, _ := num.Part(amount, w[i], sum, num.Up)
				if part != down && part != up || w[i] == 0 && part != 0 {
					t.Fatal(amount, w, l, i)
				}
			}
		}
	}
}
