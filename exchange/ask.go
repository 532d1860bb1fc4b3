package exchange

import (
	"bourse/accounts"
	"bourse/api"
	"bourse/clearing"
	"bourse/console"
	"bourse/num"
)

// Names is the instruments' names, by their numbers.
func (x *Exchange) Names() []string {
	var l []string
	for _, i := range x.instruments {
		l = append(l, i.name)
	}
	return l
}

// Phase is an instrument's.
func (x *Exchange) Phase(instrument uint32) int {
	if i := x.find(instrument); i != nil {
		return i.floor.Phase()
	}
	return 0
}

// Book is an instrument's.
func (x *Exchange) Book(instrument uint32) api.Book {
	if i := x.find(instrument); i != nil {
		return i.floor.Book()
	}
	return api.Book{}
}

// Picture is what is published of an instrument.
func (x *Exchange) Picture(instrument uint32) api.Picture {
	if i := x.find(instrument); i != nil {
		return i.publisher.Picture()
	}
	return api.Picture{}
}

// Bar is what an instrument's trades told.
func (x *Exchange) Bar(instrument uint32) api.Bar {
	if i := x.find(instrument); i != nil {
		return i.stats.Day()
	}
	return api.Bar{}
}

// Page is an instrument's best levels, as many as most, and its trades as a text.
func (x *Exchange) Page(instrument uint32, most int) string {
	if i := x.find(instrument); i != nil {
		return console.Report(i.name, i.book(), i.stats, most)
	}
	return ""
}

// Seq is the last report's number.
func (x *Exchange) Seq() uint64 { return x.seq }

// Cash is a member's.
func (x *Exchange) Cash(member uint32) num.Money {
	return x.ledger.Balance(api.Account{Member: member, Kind: api.Cash})
}

// Fees is what the house got of trades.
func (x *Exchange) Fees() num.Money { return x.ledger.Balance(api.Account{Kind: api.House}) }

// Position is a member's in an instrument.
func (x *Exchange) Position(member, instrument uint32) accounts.Position {
	return x.ledger.Position(member, instrument)
}

// Margin is how a member stands in clearing, and whether it is one.
func (x *Exchange) Margin(member uint32) (clearing.Standing, bool) {
	for _, s := range x.house.Standings() {
		if s.Member == member {
			return s, true
		}
	}
	return clearing.Standing{}, false
}

// Standing is how a member stands at an instrument's desk, and whether it was set there.
func (x *Exchange) Standing(member, instrument uint32) (api.Standing, bool) {
	if i := x.find(instrument); i != nil {
		return i.desk.Standing(member)
	}
	return api.Standing{}, false
}
