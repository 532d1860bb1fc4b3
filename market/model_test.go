package market_test

import (
	"fmt"
	"strings"

	"bourse/api"
	"bourse/clearing"
	"bourse/exchange"
	"bourse/session"
	"bourse/text"
)

// model does commands line by line as they come, and keeps beside what it tells whatever tests want to know.
type model struct {
	x      *exchange.Exchange
	names  []string // by the instruments' numbers less one
	ends   map[uint32]*end
	script strings.Builder
	trace  strings.Builder
	line   int
	says   int
	refs   map[uint32]uint64 // the greatest own number of each member
	brings uint64            // what members brought
	words  map[string]int    // how many commands of each word told "ok" or something else that is no refusal
}

// end is a client: its lines, which of them came, the letters that it handed on, and those that the house sent to it.
type end struct {
	s      *session.Session
	lines  [][]byte
	came   map[int]bool
	handed []string
	sent   []string
}

func newModel() *model {
	return &model{ends: map[uint32]*end{}, refs: map[uint32]uint64{}, words: map[string]int{}}
}

// gap is a line that is no command.
func (m *model) gap(line string) {
	m.script.WriteString(line + "\n")
	m.line++
}

// say does a command that is written so.
func (m *model) say(format string, a ...any) []string {
	line := fmt.Sprintf(format, a...)
	m.script.WriteString(line + "\n")
	m.line++
	m.says++
	words := strings.Fields(line)
	told := []string{"nothing"}
	if m.x != nil || words[0] == "market" {
		told = m.do(words[0], words[1:])
	}
	for _, l := range told {
		fmt.Fprintln(&m.trace, m.line, l)
	}
	if !strings.HasPrefix(told[0], "refused") && told[0] != "nobody" && told[0] != "missing" && told[0] != "nothing" {
		m.words[words[0]]++
	}
	return told
}

func code(why api.Errno, behind []string) []string {
	if why != api.OK {
		return []string{fmt.Sprint("refused ", int(why))}
	}
	return append([]string{"ok"}, behind...)
}

func (m *model) number(name string) uint32 {
	for i, n := range m.names {
		if n == name {
			return uint32(i + 1)
		}
	}
	return 0
}

// reports are told, and members' numbers are looked at.
func (m *model) reports(l []api.Report) []string {
	var out []string
	for _, r := range l {
		name, e, what := "-", r.Event, ""
		if r.Instrument != 0 {
			name = m.names[r.Instrument-1]
		}
		switch e.Kind {
		case 1:
			what = fmt.Sprintf("ack %d %d %d %d %d", e.Side, e.Type, e.Price, e.Qty, e.Peak)
		case 2:
			what = fmt.Sprintf("reject %d", int(e.Code))
		case 3:
			what = fmt.Sprintf("trade %d %d %d", e.Side, e.Price, e.Qty)
		case 4:
			what = fmt.Sprintf("cancel %d %d", e.Qty, e.Reason)
		case 5:
			what = fmt.Sprintf("refresh %d %d", e.Price, e.Qty)
		case 6:
			what = fmt.Sprintf("stop %d %d", e.Target, e.Reason)
		case 7:
			what = "trigger"
		case 8:
			what = fmt.Sprintf("phase %d %d", e.Reason, e.Price)
		case 9:
			what = fmt.Sprintf("price %d %d %d", e.Price, e.Qty, e.Reason)
		case 20:
			what = fmt.Sprintf("halt %d", e.Price)
		default:
			what = fmt.Sprintf("event %d", e.Kind)
		}
		out = append(out, fmt.Sprintf("> %d %d %s %d %d %s", r.Seq, r.Member, name, r.Ref, r.Target, what))
	}
	return out
}

// values are words as numbers, 0 where they are none.
func values(words []string) []uint64 {
	l := make([]uint64, len(words)+12)
	for i, w := range words {
		fmt.Sscan(w, &l[i])
	}
	return l
}

func (m *model) do(word string, w []string) []string {
	v := values(w)
	member := uint32(v[0])
	switch word {
	case "market":
		x, why := exchange.New(api.Tariff{Maker: uint32(v[0]), Taker: uint32(v[1]), By: uint32(v[2])}, v[3])
		m.x = x
		return code(why, nil)
	case "list":
		s := api.Session{Reference: int(v[4]), Static: int(v[5]), Dynamic: int(v[6]), Stops: int(v[7]), Engine: int(v[3])}
		s.Config.Capacity, s.Config.Meet = int(v[1]), int(v[2])
		n, why := m.x.List(w[0], s, uint32(v[8]), uint32(v[9]))
		if why != api.OK {
			return code(why, nil)
		}
		m.names = append(m.names, w[0])
		return []string{fmt.Sprint("list ", n)}
	case "join":
		why := m.x.Join(member, api.Limits{Order: v[1], Open: v[2], Count: int(v[3]), Position: v[4], Worth: v[5]}, v[6], v[7])
		if why == api.OK {
			m.brings += v[7]
			m.refs[member] = 0
		}
		return code(why, nil)
	case "pay":
		return code(m.x.Pay(member, v[1]), nil)
	case "turn":
		l, why := m.x.Turn(m.number(w[0]), int(v[1]))
		return code(why, m.reports(l))
	case "engine":
		return code(m.x.Swap(m.number(w[0]), int(v[1])), nil)
	case "kill":
		l, why := m.x.Kill(member)
		return code(why, m.reports(l))
	case "revive":
		return code(m.x.Revive(member), nil)
	case "settle":
		return m.settle(m.x.Settle())
	case "tick":
		m.x.Tick()
		return []string{"ok"}
	case "dial":
		why := m.x.Dial(member, w[1])
		if why == api.OK {
			s, _ := session.New(w[1], "BRS", true)
			m.ends[member] = &end{s: s, came: map[int]bool{}}
		}
		return code(why, nil)
	case "new", "cancel", "withdraw", "replace", "stop":
		q := m.request(word, w, v)
		m.refs[q.Member] = max(m.refs[q.Member], q.Ref%(1<<40))
		return code(api.OK, m.reports(m.x.Send(q)))
	case "cash", "margin", "position", "risk", "book", "bar", "picture", "page":
		return m.ask(word, w, v)
	}
	e := m.ends[member]
	if e == nil {
		return []string{"nobody"}
	}
	return m.client(e, word, w, v)
}

func (m *model) settle(calls []clearing.Call, falls []clearing.Fall, l []api.Report, why api.Errno) []string {
	if why != api.OK {
		return code(why, nil)
	}
	out := []string{fmt.Sprintf("settle %d %d", len(calls), len(falls))}
	for _, c := range calls {
		out = append(out, fmt.Sprintf("call %d %s %s", c.Member, c.Need.Text(), c.Have.Text()))
	}
	for _, f := range falls {
		out = append(out, fmt.Sprintf("fall %d %d %d %d", f.Member, f.Cover.Own, f.Cover.House, f.Cover.Left))
	}
	return append(out, m.reports(l)...)
}

func (m *model) request(word string, w []string, v []uint64) api.Request {
	q := api.Request{Member: uint32(v[0]), Instrument: m.number(w[1])}
	switch word {
	case "new":
		q.Kind, q.Ref, q.Side, q.Type, q.Price, q.Qty, q.Peak, q.Day = 1, v[2], int(v[3]), int(v[4]), int(v[5]), v[6], v[7], v[8] == 1
	case "cancel":
		q.Kind, q.Target = 2, v[2]
	case "replace":
		q.Kind, q.Target, q.Ref, q.Price, q.Qty, q.Peak = 3, v[2], v[3], int(v[4]), v[5], v[6]
	case "stop":
		q.Kind, q.Ref, q.Side, q.Type, q.Trigger, q.Price, q.Qty, q.Peak = 4, v[2], int(v[3]), int(v[4]), int(v[5]), int(v[6]), v[7], v[8]
	case "withdraw":
		q.Kind, q.Target = 5, v[2]
	}
	return q
}

func (m *model) ask(word string, w []string, v []uint64) []string {
	member := uint32(v[0])
	name := m.number(w[len(w)-1])
	switch word {
	case "cash":
		return []string{"cash " + m.x.Cash(member).Text() + " " + m.x.Fees().Text()}
	case "margin":
		s, ok := m.x.Margin(member)
		if !ok {
			return []string{"nobody"}
		}
		return []string{fmt.Sprintf("margin %d %s %d %d", s.Fund, s.Margin.Text(), map[bool]int{true: 1}[s.Called], map[bool]int{true: 1}[s.Out])}
	case "position":
		p := m.x.Position(member, name)
		return []string{fmt.Sprintf("position %d %s %s", p.Qty, p.Cost.Text(), p.Gain.Text())}
	case "risk":
		s, ok := m.x.Standing(member, name)
		if !ok {
			return []string{"nobody"}
		}
		return []string{fmt.Sprintf("risk %d %d %d %d %d %d", map[bool]int{true: 1}[s.Killed], s.Buys, s.Sells, s.Count, s.Bought, s.Sold)}
	case "book":
		b := m.x.Book(name)
		out := []string{fmt.Sprintf("book %d %d %d %d %d", m.x.Phase(name), b.High, b.Seq, len(b.Buys), len(b.Sells))}
		for i, o := range append(b.Buys, b.Sells...) {
			out = append(out, fmt.Sprintf("%s %d %d %d %d %d %d %d", []string{"buy", "sell"}[min(1, (i+1)/(len(b.Buys)+1))], o.ID, o.Member, o.Type, o.Price, o.Visible, o.Hidden, o.Peak))
		}
		return out
	case "bar":
		b := m.x.Bar(name)
		return []string{fmt.Sprintf("bar %d %d %d %d %d %d", b.Open, b.High, b.Low, b.Close, b.Volume, b.Trades)}
	case "picture":
		p := m.x.Picture(name)
		out := []string{fmt.Sprintf("picture %d", p.Seq)}
		for _, l := range p.Buys {
			out = append(out, fmt.Sprintf("bid %d %d %d", l.Price, l.Qty, l.Count))
		}
		for _, l := range p.Sells {
			out = append(out, fmt.Sprintf("ask %d %d %d", l.Price, l.Qty, l.Count))
		}
		return out
	}
	out := strings.Split("page\n"+m.x.Page(m.number(w[0]), int(v[1])), "\n")
	for i := 1; i < len(out); i++ {
		out[i] = "| " + out[i]
	}
	return out[:len(out)-1]
}

// sends tells of what a client sends.
func (e *end) sends(l [][]byte, why api.Errno) []string {
	if why != api.OK {
		return code(why, nil)
	}
	from, to := len(e.lines)+1, len(e.lines)+len(l)
	e.lines = append(e.lines, l...)
	if len(l) == 0 {
		from, to = 0, 0
	}
	return []string{fmt.Sprintf("sent %d %d", from, to)}
}

func (m *model) client(e *end, word string, w []string, v []uint64) []string {
	member := uint32(v[0])
	switch word {
	case "logon":
		return e.sends(e.s.Begin())
	case "logoff":
		return e.sends(e.s.End())
	case "ticks":
		return e.sends(e.s.Tick(), api.OK)
	case "pass", "again":
		k := int(v[1])
		if k == 0 || k > len(e.lines) || word == "pass" && e.came[k] {
			return []string{"missing"}
		}
		e.came[k] = true
		return code(m.x.Take(member, e.lines[k-1]), nil)
	case "drop":
		l := m.x.Lines(member)
		e.hear(l)
		return []string{fmt.Sprintf("drop %d", len(l))}
	case "fetch":
		l := m.x.Lines(member)
		e.hear(l)
		var letters []string
		count := 0
		for _, b := range l {
			told, lines, _ := e.s.Take(b)
			count += len(lines)
			e.lines = append(e.lines, lines...)
			for _, one := range told {
				letters = append(letters, shown(one.Kind, one.Tags))
			}
		}
		e.handed = append(e.handed, letters...)
		return append([]string{fmt.Sprintf("fetch %d %d %d", len(l), len(letters), count)}, letters...)
	}
	// A letter.
	l := mailed(word, w)
	if word == "mailnew" && (v[3] > 255 || v[4] > 255) {
		return []string{"refused 40"}
	}
	if q := m.request(strings.TrimPrefix(word, "mail"), w, v); q.Ref > 0 {
		m.refs[q.Member] = max(m.refs[q.Member], q.Ref%(1<<40))
	}
	return e.sends(e.s.Send(l))
}

// mailed is the letter of a command's words, field by field.
func mailed(word string, w []string) api.Letter {
	kind, tags := "F", []int{55, 41}
	values := w[1:]
	switch word {
	case "mailnew":
		kind, tags = "D", []int{55, 59, 11, 1, 54, 40, 44, 38, 210}
		day := "1"
		if w[8] == "1" {
			day = "0"
		}
		values = append([]string{w[1], day, w[2], w[0]}, w[3:8]...)
	case "mailreplace":
		kind, tags = "G", []int{55, 41, 11, 44, 38, 210}
	}
	l := api.Letter{Kind: kind}
	for i, t := range tags {
		l.Tags = append(l.Tags, api.Tag{Tag: t, Value: values[i]})
	}
	return l
}

func shown(kind string, l []api.Tag) string {
	s := "letter " + kind
	for _, t := range l {
		s += fmt.Sprintf(" %d=%s", t.Tag, t.Value)
	}
	return s
}

// hear looks at lines that the house sent: each letter comes once without 43, in its order.
func (e *end) hear(l [][]byte) {
	for _, b := range l {
		kind, tags, _, why := text.Decode(b)
		if why != api.OK {
			panic("a line of the house's can't be read")
		}
		if (kind == "8" || kind == "3") && tags[3].Tag != 43 {
			e.sent = append(e.sent, shown(kind, tags[3:]))
		}
	}
}
