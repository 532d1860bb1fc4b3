package console

import (
	"math"

	"bourse/api"
	"bourse/naming"
	"bourse/text"
)

// wordLimits is the one word behind which an operation has limits.
const wordLimits = "limits"

const (
	longestName = 8
	mostCount   = 999999999
)

// shape is what a word may be: how it is read into an operation (false: it can't stand there), and how it is written of one.
type shape struct {
	read  func(word string, o *api.Operation) bool
	write func(o api.Operation) string
}

// shapesOf is the shapes of the words behind a line's first one; false: no line begins so.
func shapesOf(word string) ([]shape, bool) {
	switch word {
	case "halt", "auction", "open", "close", "report":
		return []shape{name()}, true
	case "resume":
		return []shape{name(), price()}, true
	case "depth":
		return []shape{name(), count()}, true
	case "kill", "revive":
		return []shape{member()}, true
	case wordLimits:
		return append([]shape{member()}, limits()...), true
	case "members", "settle":
		return nil, true
	}
	return nil, false
}

func name() shape {
	return shape{
		read: func(word string, o *api.Operation) bool {
			o.Name = word
			return naming.Is(word, longestName)
		},
		write: func(o api.Operation) string { return o.Name },
	}
}

func member() shape {
	return whole(1, math.MaxUint32, func(o *api.Operation) *uint32 { return &o.Member })
}

func price() shape {
	return whole(0, api.Ticks-1, func(o *api.Operation) *int { return &o.Price })
}

func count() shape {
	return whole(0, mostCount, func(o *api.Operation) *int { return &o.Count })
}

func limits() []shape {
	return []shape{
		whole(0, math.MaxUint64, func(o *api.Operation) *uint64 { return &o.Limits.Order }),
		whole(0, math.MaxUint64, func(o *api.Operation) *uint64 { return &o.Limits.Open }),
		whole(0, mostCount, func(o *api.Operation) *int { return &o.Limits.Count }),
		whole(0, math.MaxUint64, func(o *api.Operation) *uint64 { return &o.Limits.Position }),
		whole(0, math.MaxUint64, func(o *api.Operation) *uint64 { return &o.Limits.Worth }),
	}
}

// whole is the shape of a number that stands in a field. (One below 0 is written as one that is too great, and so is no line's.)
func whole[T int | uint32 | uint64](least, most uint64, field func(o *api.Operation) *T) shape {
	return shape{
		read: func(word string, o *api.Operation) bool {
			n, why := text.Number([]api.Tag{{Tag: 1, Value: word}}, 1)
			*field(o) = T(n)
			return why == api.OK && least <= n && n <= most
		},
		write: func(o api.Operation) string { return text.Decimal(uint64(*field(&o))) },
	}
}
