package num_test

import (
	"math/big"
	"testing"

	"bourse/api"
	"bourse/num"
)

// heldCount is held for counts.
func heldCount(t *testing.T, what string, got uint64, why api.Errno, want *big.Int) {
	t.Helper()
	if want.Sign() < 0 || want.BitLen() > 64 {
		if got != 0 || why != api.ErrOver {
			t.Fatal(what, "beyond the counts:", got, why)
		}
		return
	}
	if why != api.OK || whole(got).Cmp(want) != 0 {
		t.Fatal(what, "wanted:", want, "got:", got, why)
	}
}

func TestP1_1Pairs(t *testing.T) {
	l := edges()
	x := mixer(2)
	for range 60 {
		l = append(l, x.count())
	}
	for _, a := range l {
		for _, b := range l {
			n, why := num.Add(a, b)
			heldCount(t, "Add", n, why, new(big.Int).Add(whole(a), whole(b)))
			n, why = num.Sub(a, b)
			heldCount(t, "Sub", n, why, new(big.Int).Sub(whole(a), whole(b)))
			n, why = num.Mul(a, b)
			heldCount(t, "Mul", n, why, new(big.Int).Mul(whole(a), whole(b)))
			n, why = num.Sum(a, b)
			heldCount(t, "Sum", n, why, new(big.Int).Add(whole(a), whole(b)))
		}
	}
}

func TestP1_1Sum(t *testing.T) {
	for _, l := range [][]uint64{
		nil, {}, {0}, {most}, {most, 0, 0}, {most, 1}, {1, most}, {1 << 63, 1 << 63}, {1 << 63, 1<<63 - 1}, {1 << 63, 1<<63 - 1, 1},
		{most, 1, most, 1}, {most, most, 2}, {most, 1, 5, 7}, {1, 2, 3, 4, 5},
	} {
		want := new(big.Int)
		for _, n := range l {
			want.Add(want, whole(n))
		}
		n, why := num.Sum(l...)
		heldCount(t, "Sum", n, why, want)
	}
}

// heldParts holds Part against whole numbers in the three ways of rounding.
func heldParts(t *testing.T, a, b, c uint64) {
	t.Helper()
	product := new(big.Int).Mul(whole(a), whole(b))
	for _, round := range rounds {
		n, why := num.Part(a, b, c, round)
		heldCount(t, "Part", n, why, rounded(product, whole(c), round))
	}
}

func TestP1_2Part(t *testing.T) {
	for _, a := range edges() {
		for _, b := range edges() {
			for _, c := range edges()[1:] {
				heldParts(t, a, b, c)
			}
		}
	}
	x := mixer(3)
	for range 20000 {
		heldParts(t, x.count(), x.count(), x.count()|1)
		heldParts(t, x.count(), x.count(), x.count()&^1|1<<63)
	}
}

func TestP1_2Halves(t *testing.T) {
	for _, x := range []struct{ a, b, c, want uint64 }{
		{0, 1, 2, 0}, {1, 1, 2, 0}, {3, 1, 2, 2}, {5, 1, 2, 2}, {7, 1, 2, 4}, {5, 3, 10, 2}, {5, 5, 10, 2}, {5, 7, 10, 4},
		{1 << 62, 1, 1 << 63, 0}, {1 << 62, 3, 1 << 63, 2}, {1<<62 + 1, 1, 1 << 63, 1}, {1<<62 - 1, 3, 1 << 63, 1},
		{most, 1 << 63, most - 1, 1<<63 + 1}, {1, most/2 + 1, most, 1}, {1, most / 2, most, 0},
	} {
		if n, why := num.Part(x.a, x.b, x.c, num.Nearest); n != x.want || why != api.OK {
			t.Error(x, n, why)
		}
	}
}

// TestP1_2Top: quotients that are 2^64 - 1 and something, which rounding alone puts beyond the counts.
func TestP1_2Top(t *testing.T) {
	const sixth = ((1<<64)*6 - 5) / 7 // times 7: 6 times (2^64 - 1), and 1
	const most6 = ((1<<64)*8 - 2) / 9 // times 9: 8 times (2^64 - 1), and 6
	for _, x := range []struct {
		a, b, c uint64
		why     [3]api.Errno
	}{
		{most, 1, 1, [3]api.Errno{api.OK, api.OK, api.OK}}, {most, most, most, [3]api.Errno{api.OK, api.OK, api.OK}},
		{sixth, 7, 6, [3]api.Errno{api.OK, api.ErrOver, api.OK}}, {most6, 9, 8, [3]api.Errno{api.OK, api.ErrOver, api.ErrOver}},
		{most, 2, 1, [3]api.Errno{api.ErrOver, api.ErrOver, api.ErrOver}}, {1 << 63, 2, 1, [3]api.Errno{api.ErrOver, api.ErrOver, api.ErrOver}},
		{most, most, most - 1, [3]api.Errno{api.ErrOver, api.ErrOver, api.ErrOver}}, {most, most, 1, [3]api.Errno{api.ErrOver, api.ErrOver, api.ErrOver}},
	} {
		for round, why := range x.why {
			want := uint64(most)
			if why != api.OK {
				want = 0
			}
			if n, e := num.Part(x.a, x.b, x.c, round); n != want || e != why {
				t.Error(x, round, n, e)
			}
		}
	}
	halves := 0
	for c := uint64(2); c < 200; c++ {
		for b := c + 1; b < 2*c; b++ {
			least := new(big.Int).Mul(whole(most), whole(c))
			a := rounded(least, whole(b), num.Up)
			heldParts(t, a.Uint64(), b, c)
			rest := new(big.Int).Sub(a.Mul(a, whole(b)), least)
			if rest.Lsh(rest, 1).Cmp(whole(c)) == 0 {
				halves++
			}
		}
	}
	if halves == 0 {
		t.Error("no half ahead of 2^64 was tried")
	}
}

func TestP1_2Wrong(t *testing.T) {
	for _, round := range wrongRounds {
		for _, l := range [][3]uint64{{1, 1, 1}, {1, 1, 0}, {most, most, 1}, {most, most, 0}} {
			if n, why := num.Part(l[0], l[1], l[2], round); n != 0 || why != api.ErrArg {
				t.Error(l, round, n, why)
			}
		}
	}
	for _, round := range rounds {
		for _, a := range []uint64{0, 1, most} {
			if n, why := num.Part(a, a, 0, round); n != 0 || why != api.ErrDivide {
				t.Error(a, round, n, why)
			}
		}
	}
}

// TestP1_10 holds the parts by what the promise says of them, not by a quotient.
func TestP1_10(t *testing.T) {
	x := mixer(4)
	for range 20000 {
		a, b, c := x.count(), x.count(), x.count()|1<<(x.next()%64)
		down, why := num.Part(a, b, c, num.Down)
		if why != api.OK {
			continue
		}
		product, by := new(big.Int).Mul(whole(a), whole(b)), whole(c)
		below := new(big.Int).Mul(whole(down), by)
		above := new(big.Int).Add(below, by)
		if below.Cmp(product) > 0 || product.Cmp(above) >= 0 {
			t.Fatal("Down", a, b, c, down)
		}
		up, why := num.Part(a, b, c, num.Up)
		exact := below.Cmp(product) == 0
		if why == api.OK && (exact && up != down || !exact && up != down+1) || why != api.OK && down != most {
			t.Fatal("Up", a, b, c, down, up, why)
		}
		near, why := num.Part(a, b, c, num.Nearest)
		if why == api.OK && near != down && near != up || why != api.OK && down != most {
			t.Fatal("Nearest", a, b, c, down, near, why)
		}
		off := new(big.Int).Mul(whole(near), by)
		off.Sub(off, product).Lsh(off, 1)
		if why == api.OK && off.CmpAbs(by) > 0 {
			t.Fatal("further than a half", a, b, c, near)
		}
	}
}
