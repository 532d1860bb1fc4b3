package num_test

import (
	"math/big"
	"testing"

	"bourse/api"
	"bourse/num"
)

// The tests hold every answer against whole numbers of math/big, which no code of the package uses.

const most = 1<<64 - 1

var rounds = []int{num.Down, num.Up, num.Nearest}

var wrongRounds = []int{-1, 3, 9, 1 << 32, 1<<63 - 1, -1 << 63}

// edges are the counts about which words wrap, carry and halve.
func edges() []uint64 {
	return []uint64{0, 1, 2, 3, 4, 5, 6, 7, 10, 99, 100, 1<<31 - 1, 1 << 31, 1<<32 - 1, 1 << 32, 1<<32 + 1,
		1<<63 - 1, 1 << 63, 1<<63 + 1, most / 3, most/3 + 1, most - 2, most - 1, most}
}

// mixer makes the same numbers in every run, of all widths.
type mixer uint64

func (x *mixer) next() uint64 {
	*x += 0x9e3779b97f4a7c15
	n := uint64(*x)
	n = (n ^ n>>30) * 0xbf58476d1ce4e5b9
	n = (n ^ n>>27) * 0x94d049bb133111eb
	return n ^ n>>31
}

func (x *mixer) count() uint64 {
	n := x.next()
	return n >> (x.next() % 64)
}

func whole(n uint64) *big.Int { return new(big.Int).SetUint64(n) }

func power(n uint) *big.Int { return new(big.Int).Lsh(big.NewInt(1), n) }

// top is 2^127 - 1, the greatest amount.
func top() *big.Int { return new(big.Int).Sub(power(127), big.NewInt(1)) }

func isAmount(n *big.Int) bool { return n.CmpAbs(top()) <= 0 }

// rounded is n divided by c, both not below 0, found by trying what the quotient's neighbours miss.
func rounded(n, c *big.Int, round int) *big.Int {
	q, r := new(big.Int).QuoRem(n, c, new(big.Int))
	up := false
	switch round {
	case num.Up:
		up = r.Sign() > 0
	case num.Nearest:
		half := new(big.Int).Lsh(r, 1).Cmp(c)
		up = half > 0 || half == 0 && q.Bit(0) == 1
	}
	if up {
		q.Add(q, big.NewInt(1))
	}
	return q
}

// money makes an amount from a whole number by its words.
func money(t *testing.T, n *big.Int) num.Money {
	t.Helper()
	m, why := num.FromWords(words(n))
	if why != api.OK {
		t.Fatal("no amount:", n, why)
	}
	return m
}

func words(n *big.Int) [2]uint64 {
	r := new(big.Int).Mod(n, power(128))
	return [2]uint64{new(big.Int).Rsh(r, 64).Uint64(), new(big.Int).Mod(r, power(64)).Uint64()}
}

// value is the whole number that an amount's words are.
func value(m num.Money) *big.Int {
	w := m.Words()
	n := new(big.Int).Add(new(big.Int).Lsh(whole(w[0]), 64), whole(w[1]))
	if n.Bit(127) == 1 {
		n.Sub(n, power(128))
	}
	return n
}

// amounts are whole numbers of both signs about the places where words and amounts end, and some of all widths.
func amounts() []*big.Int {
	var l []*big.Int
	add := func(n *big.Int) {
		if isAmount(n) {
			l = append(l, n, new(big.Int).Neg(n))
		}
	}
	for _, near := range []*big.Int{big.NewInt(2), big.NewInt(100), power(32), power(63), power(64), power(126), power(127)} {
		for d := int64(-2); d <= 2; d++ {
			add(new(big.Int).Add(near, big.NewInt(d)))
		}
	}
	add(big.NewInt(7))
	x := mixer(1)
	for range 40 {
		n := new(big.Int).Add(new(big.Int).Lsh(whole(x.next()>>1), 64), whole(x.next()))
		add(n.Rsh(n, uint(x.next()%127)))
	}
	return l
}

// held finds an answer that is not the wanted whole number, or not ErrOver with 0 where that does not fit.
func held(t *testing.T, what string, got num.Money, why api.Errno, want *big.Int) {
	t.Helper()
	if !isAmount(want) {
		if got != (num.Money{}) || why != api.ErrOver {
			t.Fatal(what, "beyond the amounts:", got.Text(), why)
		}
		return
	}
	if why != api.OK || value(got).Cmp(want) != 0 {
		t.Fatal(what, "wanted:", want, "got:", got.Text(), why)
	}
}
