package exchange

import (
	"bourse/api"
	"bourse/console"
	"bourse/feed"
	"bourse/phases"
	"bourse/risk"
	"bourse/rules"
)

const longestName = 8

// shownLevels is how many levels of each side are published.
const shownLevels = 10

// instrument is one that is listed, and all that watches what its floor tells.
type instrument struct {
	number        uint32
	name          string
	part, by      uint32
	floor         *phases.Floor
	desk          *risk.Desk
	publisher     *feed.Publisher
	stats         *console.Stats
	orders, stops register
}

// listed is an instrument without a number, that has no orders and no members.
func listed(name string, s api.Session) (*instrument, api.Errno) {
	f, why := phases.New(s)
	if why != api.OK {
		return nil, why
	}
	p, why := feed.NewPublisher(shownLevels)
	if why != api.OK {
		return nil, why
	}
	return &instrument{
		name: name, floor: f, desk: risk.New(), publisher: p, stats: console.NewStats(),
		orders: newRegister(), stops: newRegister(),
	}, api.OK
}

// book is a book that keeps what the floor's does.
func (i *instrument) book() *rules.Book {
	x := i.floor.Book()
	// A floor's book can always be.
	b, _ := rules.New(x.Config)
	b.Load(x)
	return b
}

// rate is how clearing closes a day of it.
func (i *instrument) rate() api.Rate {
	return api.Rate{Instrument: i.number, Price: i.floor.Reference(), Part: i.part, By: i.by}
}
