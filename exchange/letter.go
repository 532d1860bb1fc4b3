package exchange

import (
	"slices"

	"bourse/api"
	"bourse/message"
	"bourse/text"
)

// The kinds of letters, beside those of requests that are read by package message.
const (
	kindNew     = "D"
	kindRefusal = "3"
	kindReport  = "8"
)

// The tags of fields that package message does not know, or not there.
const (
	tagReport     = 17 // a report's number, as 34 is the line's own
	tagInstrument = 55
	tagReason     = 58
	tagDay        = 59
)

// request reads a letter as a member's request; false: it is none.
func (x *Exchange) request(member uint32, l api.Letter) (api.Request, bool) {
	name, rest := first(l.Tags, tagInstrument)
	i, day := x.named(name), ""
	if l.Kind == kindNew {
		day, rest = first(rest, tagDay)
		if day != "0" && day != "1" {
			return api.Request{}, false
		}
	}
	// What a session handed on can always be a line again.
	line, _ := text.Encode(l.Kind, rest)
	in, _, why := message.ReadLine(line)
	c := in.Command
	if i == nil || why != api.OK || in.Kind != api.ToBook || l.Kind == kindNew && c.Member != member {
		return api.Request{}, false
	}
	return api.Request{
		Member: member, Instrument: i.number, Kind: c.Kind, Ref: c.ID, Target: c.Target,
		Side: c.Side, Type: c.Type, Price: c.Price, Qty: c.Qty, Peak: c.Peak, Day: day == "0",
	}, true
}

// first is the value of the first field, if that has such a tag, and the fields behind it; else an empty one, and all.
func first(l []api.Tag, tag int) (string, []api.Tag) {
	if len(l) == 0 || l[0].Tag != tag {
		return "", l
	}
	return l[0].Value, l[1:]
}

// mail sends a report to its member as a letter.
func (x *Exchange) mail(r api.Report) {
	m, i := x.members[r.Member], x.find(r.Instrument)
	// Without an instrument there is no name to tell, and so no letter that could be.
	if m == nil || i == nil {
		return
	}
	if l, ok := i.letter(r); ok {
		m.send(l)
	}
}

// letter is a report as a letter; false: there is none of its event's kind.
func (i *instrument) letter(r api.Report) (api.Letter, bool) {
	e := r.Event
	if e.Kind == api.EvTrade && i.orders.owners[e.Other] == (own{r.Member, r.Ref}) {
		e.Side = api.Buy + api.Sell - e.Side
	}
	e.Seq, e.ID, e.Target, e.Other = r.Seq, r.Ref, r.Target, 0
	line, why := message.EventLine(e)
	if why != api.OK {
		return api.Letter{}, false
	}
	_, tags, _, _ := text.Decode(line)
	tags[0].Tag = tagReport // the first one is its number
	return api.Letter{Kind: kindReport, Tags: slices.Insert(tags, 0, api.Tag{Tag: tagInstrument, Value: i.name})}, true
}
