package market

import (
	"strings"

	"bourse/api"
	"bourse/text"
)

// say is words with a blank between two.
func say(words ...string) string { return strings.Join(words, " ") }

// digits is a number in decimal.
func digits[T int | int64 | uint32 | uint64](n T) string {
	if n < 0 {
		return "-" + text.Decimal(-uint64(n))
	}
	return text.Decimal(uint64(n))
}

// bit is 1 where something is so, else 0.
func bit(is bool) string {
	if is {
		return "1"
	}
	return "0"
}

// answer is why a command was refused, or else that it was done, and what is told behind that.
func answer(why api.Errno, behind ...string) []string {
	if why != api.OK {
		return []string{say("refused", digits(int(why)))}
	}
	return append([]string{"ok"}, behind...)
}

// nobody is what is told where there is no such member, or it has no client.
func nobody() []string { return []string{"nobody"} }

// reports is what the exchange told, line by line.
func (m *market) reports(l []api.Report) []string {
	var lines []string
	names := m.whole.Names()
	for _, r := range l {
		name := "-"
		if r.Instrument > 0 {
			name = names[r.Instrument-1]
		}
		lines = append(lines, say(">", digits(r.Seq), digits(r.Member), name, digits(r.Ref), digits(r.Target), event(r.Event)))
	}
	return lines
}

func event(e api.Event) string {
	switch e.Kind {
	case api.EvAck:
		return say("ack", digits(e.Side), digits(e.Type), digits(e.Price), digits(e.Qty), digits(e.Peak))
	case api.EvReject:
		return say("reject", digits(int(e.Code)))
	case api.EvTrade:
		return say("trade", digits(e.Side), digits(e.Price), digits(e.Qty))
	case api.EvCancel:
		return say("cancel", digits(e.Qty), digits(e.Reason))
	case api.EvRefresh:
		return say("refresh", digits(e.Price), digits(e.Qty))
	case api.EvStop:
		return say("stop", digits(e.Target), digits(e.Reason))
	case api.EvTrigger:
		return "trigger"
	case api.EvPhase:
		return say("phase", digits(e.Reason), digits(e.Price))
	case api.EvPrice:
		return say("price", digits(e.Price), digits(e.Qty), digits(e.Reason))
	case api.EvHalt:
		return say("halt", digits(e.Price))
	}
	return say("event", digits(e.Kind))
}

// letterLine is a letter that was handed on, with all its fields.
func letterLine(l api.Letter) string {
	words := []string{"letter", l.Kind}
	for _, t := range l.Tags {
		words = append(words, digits(t.Tag)+"="+t.Value)
	}
	return say(words...)
}
