package session

import (
	"slices"

	"bourse/api"
	"bourse/text"
)

// The kinds of the session: all others are letters.
const (
	logOn  = "A"
	beat   = "0"
	ask    = "2"
	skip   = "4"
	logOff = "5"
)

const (
	tagNumber  = 34
	tagOwn     = 49
	tagPeer    = 56
	tagAgain   = 43 // of a line that is sent again, with the value yes
	tagMissing = 7  // of an ask: the first number that is missing
	tagNext    = 36 // of a skip: the number that comes next

	yes   = "Y"
	heads = 3 // the fields with which every line begins
)

func isOurs(kind string) bool {
	switch kind {
	case logOn, beat, ask, skip, logOff:
		return true
	}
	return false
}

func numeral(tag int, n uint64) api.Tag { return api.Tag{Tag: tag, Value: text.Decimal(n)} }

// fields is all fields of a line of this end: those that every line has, and its own behind them.
func (s *Session) fields(number uint64, again bool, own []api.Tag) []api.Tag {
	l := []api.Tag{numeral(tagNumber, number), {Tag: tagOwn, Value: s.Own}, {Tag: tagPeer, Value: s.Peer}}
	if again {
		l = append(l, api.Tag{Tag: tagAgain, Value: yes})
	}
	return append(l, own...)
}

// line is a line's bytes. No error comes of it: a letter was measured ahead of being kept, and the session's own lines are short.
func (s *Session) line(kind string, number uint64, again bool, own []api.Tag) []byte {
	b, _ := text.Encode(kind, s.fields(number, again, own))
	return b
}

// arrival is a line of the peer, taken apart: what it is without the fields that every line has, its number, and the value of an ask's or a skip's one field.
type arrival struct {
	api.Letter
	number, value uint64
}

// read takes a line of the peer apart, if it is one.
func (s *Session) read(b []byte) (arrival, api.Errno) {
	kind, l, size, why := text.Decode(b)
	if why != api.OK {
		return arrival{}, why
	}
	number, headed := s.numberOf(l)
	if size < len(b) || !headed {
		return arrival{}, api.ErrLetter
	}
	own, fair := ownFields(l[heads:])
	value, fits := valueOf(kind, own, number)
	if !fair || !fits {
		return arrival{}, api.ErrLetter
	}
	return arrival{api.Letter{Kind: kind, Tags: own}, number, value}, api.OK
}

// numberOf is the line's number, and whether it begins as a line from the peer to this end does.
func (s *Session) numberOf(l []api.Tag) (uint64, bool) {
	if len(l) < heads || l[1] != (api.Tag{Tag: tagOwn, Value: s.Peer}) || l[2] != (api.Tag{Tag: tagPeer, Value: s.Own}) {
		return 0, false
	}
	n, why := text.Number(l[:1], tagNumber)
	return n, why == api.OK && n > 0
}

// ownFields is the fields that are the line's own, of those behind its head. That the head's tags are not among them is seen to by text.Decode, which takes no tag twice.
func ownFields(l []api.Tag) ([]api.Tag, bool) {
	if len(l) > 0 && l[0] == (api.Tag{Tag: tagAgain, Value: yes}) {
		l = l[1:]
	}
	_, again := text.Value(l, tagAgain)
	return slices.Clone(l), !again
}

// valueOf is the value of an ask or a skip, and whether the fields are those that a line of such a kind has.
func valueOf(kind string, own []api.Tag, number uint64) (uint64, bool) {
	switch kind {
	case ask:
		return only(own, tagMissing, 0)
	case skip:
		return only(own, tagNext, number)
	case logOn, beat, logOff:
		return 0, len(own) == 0
	}
	return 0, true
}

// only is the number in the one field that there is to be, which has to be above some other one.
func only(l []api.Tag, tag int, above uint64) (uint64, bool) {
	n, why := text.Number(l, tag)
	return n, why == api.OK && len(l) == 1 && n > above
}
