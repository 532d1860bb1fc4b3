package treebook_test

import (
	"testing"

	"bourse/api"
	. "bourse/sample"
	"bourse/treebook"
)

// What a treebook has in common with the other engines is tested in folder engines.

func made(t *testing.T, c api.Config) *treebook.Book {
	t.Helper()
	b, why := treebook.New(c)
	Same(t, "New", why, api.OK)
	return b
}

// shaped holds Levels and Heights against the book.
func shaped(t *testing.T, b *treebook.Book) {
	t.Helper()
	x := b.Book()
	buys, sells := b.Levels()
	Same(t, "Levels of the buys", buys, prices(x.Buys))
	Same(t, "Levels of the sells", sells, prices(x.Sells))
	g, h := b.Heights()
	flat(t, g, buys)
	flat(t, h, sells)
}

// prices is how many there are.
func prices(l []api.Resting) int {
	seen := map[int]bool{}
	for _, r := range l {
		seen[r.Price] = true
	}
	return len(seen)
}

// flat holds a height against how many prices there are.
func flat(t *testing.T, h, n int) {
	t.Helper()
	if h < 0 || n < fewest(h) || n >= 1<<h {
		t.Fatalf("%d prices stand %d high", n, h)
	}
}

// fewest is F of P10.3.
func fewest(h int) int {
	a, b := 0, 1
	for range h {
		a, b = b, a+b+1
	}
	return a
}

// heights is what Heights answers.
func heights(b *treebook.Book) [2]int {
	g, h := b.Heights()
	return [2]int{g, h}
}

// levels is what Levels answers.
func levels(b *treebook.Book) [2]int {
	m, n := b.Levels()
	return [2]int{m, n}
}
