package market

import (
	"bourse/api"
	"bourse/session"
)

// houseName is the name of the house's end of every session.
const houseName = "BRS"

// client is a member's end of its session, and all lines that it sent, numbered from 1 on.
type client struct {
	*session.Session
	lines []line
}

// line is one that a client sent, and whether it came to the exchange.
type line struct {
	bytes  []byte
	passed bool
}

// keep takes what a client sends to its lines.
func (c *client) keep(l [][]byte) {
	for _, b := range l {
		c.lines = append(c.lines, line{bytes: b})
	}
}

// sends tells of what a client sends by a call of its session.
func (c *client) sends(l [][]byte, why api.Errno) []string {
	if why != api.OK {
		return answer(why)
	}
	first, last := 0, 0
	if len(l) > 0 {
		first, last = len(c.lines)+1, len(c.lines)+len(l)
	}
	c.keep(l)
	return []string{say("sent", digits(first), digits(last))}
}

// by lets a member's client do something.
func (m *market) by(a args, do func(c *client) []string) []string {
	if c := m.clients[a.member()]; c != nil {
		return do(c)
	}
	return nobody()
}

// dial: MEMBER CLIENT.
func (m *market) dial(a args) []string {
	why := m.whole.Dial(a.member(), a[1])
	if why == api.OK {
		s, _ := session.New(a[1], houseName, true) // Dial took the name
		m.clients[a.member()] = &client{Session: s}
	}
	return answer(why)
}

func (m *market) logOn(a args) []string {
	return m.by(a, func(c *client) []string { return c.sends(c.Begin()) })
}

func (m *market) logOff(a args) []string {
	return m.by(a, func(c *client) []string { return c.sends(c.End()) })
}

func (m *market) ticks(a args) []string {
	return m.by(a, func(c *client) []string { return c.sends(c.Tick(), api.OK) })
}

// pass lets a client's line come that did not come yet, and again any: MEMBER K.
func (m *market) pass(a args) []string {
	return m.by(a, func(c *client) []string { return m.come(c, a, false) })
}

func (m *market) again(a args) []string {
	return m.by(a, func(c *client) []string { return m.come(c, a, true) })
}

// come lets a client's line come to the exchange.
func (m *market) come(c *client, a args, again bool) []string {
	k := a.small(1)
	if k < 1 || k > len(c.lines) || c.lines[k-1].passed && !again {
		return []string{"missing"}
	}
	c.lines[k-1].passed = true
	return answer(m.whole.Take(a.member(), c.lines[k-1].bytes))
}

// fetch lets a client take all lines that wait for it.
func (m *market) fetch(a args) []string {
	return m.by(a, func(c *client) []string {
		var letters []string
		came, before := m.whole.Lines(a.member()), len(c.lines)
		for _, b := range came {
			l, out, _ := c.Take(b)
			c.keep(out)
			for _, one := range l {
				letters = append(letters, letterLine(one))
			}
		}
		return append([]string{say("fetch", digits(len(came)), digits(len(letters)), digits(len(c.lines)-before))}, letters...)
	})
}

// drop loses all lines that wait for a client.
func (m *market) drop(a args) []string {
	return m.by(a, func(*client) []string {
		return []string{say("drop", digits(len(m.whole.Lines(a.member()))))}
	})
}
