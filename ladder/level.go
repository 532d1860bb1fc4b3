package ladder

import (
	"iter"

	"bourse/api"
	"bourse/arena"
	"bourse/bitmap"
)

const (
	pageSize = 512                  // prices of a page
	pages    = api.Ticks / pageSize // of a ladder
)

// ladder is the levels of a side: which prices have one, and where they are, in pages that are there only while there are levels of theirs.
type ladder struct {
	prices bitmap.Map
	pages  [pages]*page

	next        func(m *bitmap.Map, price int) (int, bool) // of a price and all behind it, the first that has a level
	first, step int                                        // the price that is ahead of all, and how far it is to the one behind
}

// page is the levels of neighbouring prices, and how many there are.
type page struct {
	levels [pageSize]*level
	count  int
}

// level is the nodes of one price, and what those show together that are not dead.
type level struct {
	*arena.Queue[order]
	price int
	shown uint64
}

// levels goes through the levels, the best first; those that were passed may go meanwhile.
func (l *ladder) levels() iter.Seq[*level] {
	return func(yield func(*level) bool) {
		for price, ok := l.next(&l.prices, l.first); ok && yield(l.at(price)); {
			price, ok = l.next(&l.prices, price+l.step)
		}
	}
}

// at is the level of a price that has one.
func (l *ladder) at(price int) *level { return l.pages[price/pageSize].levels[price%pageSize] }

// open makes a level of a queue at a price that has none.
func (l *ladder) open(price int, q *arena.Queue[order]) {
	p := l.pages[price/pageSize]
	if p == nil {
		p = &page{}
		l.pages[price/pageSize] = p
	}
	p.levels[price%pageSize] = &level{Queue: q, price: price}
	p.count++
	l.prices.Set(price)
}

// close takes the level of a price away.
func (l *ladder) close(price int) {
	l.prices.Clear(price)
	p := l.pages[price/pageSize]
	p.levels[price%pageSize] = nil
	p.count--
	if p.count == 0 {
		l.pages[price/pageSize] = nil
	}
}
