package phases

import "bourse/api"

// Phase is the one of now.
func (f *Floor) Phase() int { return f.phase }

// Reference is the price about which prices may go.
func (f *Floor) Reference() int { return f.session.Reference }

// High is the greatest ID that was taken.
func (f *Floor) High() uint64 { return f.high }

// Seq is the last event's number.
func (f *Floor) Seq() uint64 { return f.seq }

// Book is the book, without orders where there is a call.
func (f *Floor) Book() api.Book {
	x := api.Book{Config: f.session.Config}
	if f.book != nil {
		x = f.book.Book()
	}
	x.High, x.Seq = f.high, f.seq
	return x
}

// Interests is those of a side, where there is a call.
func (f *Floor) Interests(side int) []api.Interest {
	if f.call == nil {
		return nil
	}
	return f.call.Interests(side)
}

// Quote is what the call would come to now, and whether there is a price.
func (f *Floor) Quote() (api.Quote, bool) {
	if f.call == nil {
		return api.Quote{}, false
	}
	return f.call.Quote()
}

// Pending is the stop orders that wait, by their numbers.
func (f *Floor) Pending() []api.Stop {
	if f.trading == nil {
		return nil
	}
	return f.trading.Pending()
}

// Orders is how many orders there are.
func (f *Floor) Orders() int {
	switch {
	case f.call != nil:
		return f.call.Len()
	case f.book != nil:
		return f.book.Len()
	}
	return 0
}

// IsDay tells whether there is an order of an ID that is for the day alone.
func (f *Floor) IsDay(id uint64) bool {
	_, there := f.day[id]
	return there
}
