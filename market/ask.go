package market

import (
	"strings"

	"bourse/api"
)

func (m *market) cash(a args) []string {
	cash, fees := m.whole.Cash(a.member()), m.whole.Fees()
	return []string{say("cash", cash.Text(), fees.Text())}
}

func (m *market) margin(a args) []string {
	s, there := m.whole.Margin(a.member())
	if !there {
		return nobody()
	}
	return []string{say("margin", digits(s.Fund), s.Margin.Text(), bit(s.Called), bit(s.Out))}
}

func (m *market) position(a args) []string {
	p := m.whole.Position(a.member(), m.instrument(a[1]))
	return []string{say("position", digits(p.Qty), p.Cost.Text(), p.Gain.Text())}
}

func (m *market) risk(a args) []string {
	s, there := m.whole.Standing(a.member(), m.instrument(a[1]))
	if !there {
		return nobody()
	}
	return []string{say("risk", bit(s.Killed), digits(s.Buys), digits(s.Sells), digits(s.Count), digits(s.Bought), digits(s.Sold))}
}

func (m *market) book(a args) []string {
	i := m.instrument(a[0])
	b := m.whole.Book(i)
	lines := []string{say("book", digits(m.whole.Phase(i)), digits(b.High), digits(b.Seq), digits(len(b.Buys)), digits(len(b.Sells)))}
	lines = append(lines, orders("buy", b.Buys)...)
	return append(lines, orders("sell", b.Sells)...)
}

func orders(side string, l []api.Resting) []string {
	var lines []string
	for _, o := range l {
		lines = append(lines, say(side, digits(o.ID), digits(o.Member), digits(o.Type), digits(o.Price), digits(o.Visible), digits(o.Hidden), digits(o.Peak)))
	}
	return lines
}

func (m *market) bar(a args) []string {
	b := m.whole.Bar(m.instrument(a[0]))
	return []string{say("bar", digits(b.Open), digits(b.High), digits(b.Low), digits(b.Close), digits(b.Volume), digits(b.Trades))}
}

func (m *market) picture(a args) []string {
	p := m.whole.Picture(m.instrument(a[0]))
	lines := append([]string{say("picture", digits(p.Seq))}, levels("bid", p.Buys)...)
	return append(lines, levels("ask", p.Sells)...)
}

func levels(side string, l []api.Level) []string {
	var lines []string
	for _, v := range l {
		lines = append(lines, say(side, digits(v.Price), digits(v.Qty), digits(v.Count)))
	}
	return lines
}

func (m *market) page(a args) []string {
	lines := []string{"page"}
	for line := range strings.Lines(m.whole.Page(m.instrument(a[0]), a.small(1))) {
		lines = append(lines, "| "+strings.TrimSuffix(line, "\n"))
	}
	return lines
}
