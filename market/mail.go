package market

import (
	"slices"

	"bourse/api"
	"bourse/message"
	"bourse/text"
)

// The tags of a request's fields that package message does not know.
const (
	tagInstrument = 55
	tagDay        = 59
)

func (m *market) mailNew(a args) []string { return m.mail(m.newOne(a), a) }

func (m *market) mailCancel(a args) []string { return m.mail(m.goneOne(api.Cancel, a), a) }

func (m *market) mailReplace(a args) []string { return m.mail(m.otherOne(a), a) }

// mail lets a member's client send a request as a letter.
func (m *market) mail(q api.Request, a args) []string {
	return m.by(a, func(c *client) []string {
		l, why := letter(q, a[1])
		if why != api.OK {
			return answer(why)
		}
		return c.sends(c.Send(l))
	})
}

// letter is a request, in an instrument of that name, as a letter.
func letter(q api.Request, name string) (api.Letter, api.Errno) {
	line, why := message.Line(api.Input{Kind: api.ToBook, Command: commandOf(q)})
	if why != api.OK {
		return api.Letter{}, why
	}
	kind, rest, _, _ := text.Decode(line)
	tags := []api.Tag{{Tag: tagInstrument, Value: name}}
	if q.Kind == api.New {
		tags = append(tags, api.Tag{Tag: tagDay, Value: bit(!q.Day)})
	}
	return api.Letter{Kind: kind, Tags: slices.Concat(tags, rest)}, api.OK
}

// commandOf is a request as a command of its member's own numbers. (Only a New says whose it is.)
func commandOf(q api.Request) api.Command {
	c := api.Command{Kind: q.Kind, ID: q.Ref, Target: q.Target, Side: q.Side, Type: q.Type, Price: q.Price, Qty: q.Qty, Peak: q.Peak}
	if q.Kind == api.New {
		c.Member = q.Member
	}
	return c
}
