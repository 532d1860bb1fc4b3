package sample

import (
	"math"
	"slices"

	"bourse/api"
)

// SameBook tells whether two books are one.
func SameBook(a, b api.Book) bool {
	return a.Config == b.Config && slices.Equal(a.Buys, b.Buys) && slices.Equal(a.Sells, b.Sells) && a.High == b.High && a.Seq == b.Seq
}

// Differ names a call to which two engines answer differently; it is empty if they are alike in all that can be asked of them.
func Differ(a, b api.Engine) string {
	x := a.Book()
	switch {
	case !SameBook(x, b.Book()):
		return "Book"
	case a.Len() != b.Len():
		return "Len"
	case slices.ContainsFunc(numbersNear(x), func(id uint64) bool { return found(a, id) != found(b, id) }):
		return "Find"
	}
	for _, side := range []int{math.MinInt, -1, 0, api.Buy, api.Sell, 3, math.MaxInt} {
		if top(a, side) != top(b, side) {
			return "Best"
		}
		for _, most := range []int{math.MinInt, -1, 0, 1, 2, 3, a.Len(), math.MaxInt} {
			if !slices.Equal(a.Depth(side, most), b.Depth(side, most)) {
				return "Depth"
			}
		}
	}
	return ""
}

// numbersNear is the IDs that a book has, and those that lie beside them or at the ends.
func numbersNear(x api.Book) []uint64 {
	ids := []uint64{0, 1, x.High, x.High + 1, math.MaxUint64}
	for _, r := range slices.Concat(x.Buys, x.Sells) {
		ids = append(ids, r.ID-1, r.ID, r.ID+1)
	}
	return ids
}

// resting is what Find answers.
type resting struct {
	order api.Resting
	side  int
	there bool
}

func found(e api.Engine, id uint64) resting {
	r, side, there := e.Find(id)
	return resting{r, side, there}
}

// best is what Best answers.
type best struct {
	level api.Level
	there bool
}

func top(e api.Engine, side int) best {
	l, there := e.Best(side)
	return best{l, there}
}
