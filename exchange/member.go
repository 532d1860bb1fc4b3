package exchange

import (
	"maps"
	"slices"

	"bourse/api"
	"bourse/session"
	"bourse/text"
)

// houseName is the name of the house's end of every session.
const houseName = "BRS"

// member is one: its session, if it was dialled, and the lines that wait for it.
type member struct {
	limits  api.Limits
	session *session.Session
	lines   [][]byte
}

// Dial begins a member's session, by its name.
func (x *Exchange) Dial(member uint32, name string) api.Errno {
	m := x.members[member]
	switch {
	case m == nil:
		return api.ErrNobody
	case m.session != nil:
		return api.ErrThere
	}
	s, why := session.New(houseName, name, false)
	if why != api.OK {
		return api.ErrArg
	}
	m.session = s
	return api.OK
}

// Lines gives out the lines that wait for a member.
func (x *Exchange) Lines(member uint32) [][]byte {
	m := x.members[member]
	if m == nil {
		return nil
	}
	lines := m.lines
	m.lines = nil
	return lines
}

// Take takes a line of a member, and does what its letters ask for.
func (x *Exchange) Take(member uint32, b []byte) api.Errno {
	m := x.members[member]
	switch {
	case m == nil:
		return api.ErrNobody
	case m.session == nil:
		return api.ErrDial
	}
	letters, lines, why := m.session.Take(b)
	if why != api.OK {
		return why
	}
	m.wait(lines)
	for _, l := range letters {
		if q, ok := x.request(member, l); ok {
			x.Send(q)
		} else {
			m.send(api.Letter{Kind: kindRefusal, Tags: []api.Tag{{Tag: tagReason, Value: text.Decimal(uint64(api.ErrMessage))}}})
		}
	}
	return api.OK
}

// Tick lets a tick pass in all sessions.
func (x *Exchange) Tick() {
	for _, n := range slices.Sorted(maps.Keys(x.members)) {
		if m := x.members[n]; m.session != nil {
			m.wait(m.session.Tick())
		}
	}
}

func (m *member) wait(lines [][]byte) { m.lines = append(m.lines, lines...) }

// send sends a letter to a member that was dialled; one that its session refuses is lost.
func (m *member) send(l api.Letter) {
	if m.session != nil {
		lines, _ := m.session.Send(l)
		m.wait(lines)
	}
}
