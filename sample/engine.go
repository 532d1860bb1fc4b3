package sample

import (
	"math"
	"slices"

	"bourse/api"
)

// Kinds is those of engines that there are.
func Kinds() []int { return []int{api.Tree, api.Ladder, api.List} }

// NoKinds is some that there are not.
func NoKinds() []int { return []int{math.MinInt, -1, 0, 4, 9, 255, 256, 257, math.MaxInt} }

// Configs is some, and whether they can be.
func Configs() map[api.Config]bool {
	l := map[api.Config]bool{}
	for _, capacity := range []int{math.MinInt, -1, 0, 1, 4, 4096, 4097, math.MaxInt} {
		for _, meet := range []int{math.MinInt, -1, 0, 1, 2, 3, 4, math.MaxInt} {
			l[api.Config{Capacity: capacity, Meet: meet}] = capacity >= 1 && capacity <= 4096 && meet >= 0 && meet <= 3
		}
	}
	return l
}

// Fair is a book with which nothing is wrong.
func Fair() api.Book {
	return api.Book{
		Config: api.Config{Capacity: 4, Meet: api.MeetOldest},
		Buys:   []api.Resting{{ID: 3, Member: 7, Type: api.Limit, Price: 10, Visible: 5}, {ID: 9, Type: api.PostOnly, Price: 10, Visible: 2, Hidden: 4, Peak: 3}},
		Sells:  []api.Resting{{ID: 1, Type: api.Limit, Price: 11, Visible: 1, Peak: 1}, {ID: 2, Type: api.Limit, Price: 12, Visible: 1}},
		High:   9,
		Seq:    40,
	}
}

// Spoilt is books that can't be: each is the fair one but for one thing.
func Spoilt() []api.Book {
	var books []api.Book
	for _, turn := range []func(x *api.Book){
		func(x *api.Book) { x.Config = api.Config{Capacity: 3} },
		func(x *api.Book) { x.Config.Meet = 4 },
		func(x *api.Book) { x.High = 8 },
		func(x *api.Book) { x.Buys[0].ID = 0 },
		func(x *api.Book) { x.Buys[0].ID = 2 },
		func(x *api.Book) { x.Buys[0].Visible = 0 },
		func(x *api.Book) { x.Buys[1].Hidden = math.MaxUint64 - 1 },
		func(x *api.Book) { x.Buys[0].Price = 9 },
		func(x *api.Book) { x.Sells[0].Price = 13 },
		func(x *api.Book) { x.Sells[0].Price = 10 },
		func(x *api.Book) { x.Sells[1].Price = api.Ticks },
		func(x *api.Book) { x.Sells[1].Type = api.IOC },
	} {
		x := Fair()
		turn(&x)
		books = append(books, x)
	}
	return books
}

// SameBook tells whether two books are one.
func SameBook(a, b api.Book) bool {
	return a.Config == b.Config && slices.Equal(a.Buys, b.Buys) && slices.Equal(a.Sells, b.Sells) && a.High == b.High && a.Seq == b.Seq
}

// Differ names a call to which two engines answer differently; it is empty if they are alike in all that can be asked of them.
func Differ(a, b api.Engine) string {
	x := a.Book()
	switch {
	case !SameBook(x, b.Book()):
		return "Book"
	case a.Len() != b.Len():
		return "Len"
	case slices.ContainsFunc(numbersNear(x), func(id uint64) bool { return Find(a, id) != Find(b, id) }):
		return "Find"
	}
	for _, side := range []int{math.MinInt, -1, 0, api.Buy, api.Sell, 3, math.MaxInt} {
		if Best(a, side) != Best(b, side) {
			return "Best"
		}
		for _, most := range []int{math.MinInt, -1, 0, 1, 2, 3, a.Len(), math.MaxInt} {
			if !slices.Equal(a.Depth(side, most), b.Depth(side, most)) {
				return "Depth"
			}
		}
	}
	return ""
}

// numbersNear is the IDs that a book has, and those that lie beside them or at the ends.
func numbersNear(x api.Book) []uint64 {
	ids := []uint64{0, 1, x.High, x.High + 1, math.MaxUint64}
	for _, r := range slices.Concat(x.Buys, x.Sells) {
		ids = append(ids, r.ID-1, r.ID, r.ID+1)
	}
	return ids
}

// Found is what Find answers.
type Found struct {
	Order api.Resting
	Side  int
	There bool
}

// Find is what an engine answers of an ID.
func Find(e api.Engine, id uint64) Found {
	r, side, there := e.Find(id)
	return Found{r, side, there}
}

// Top is what Best answers.
type Top struct {
	Level api.Level
	There bool
}

// Best is what an engine answers of a side.
func Best(e api.Engine, side int) Top {
	l, there := e.Best(side)
	return Top{l, there}
}
