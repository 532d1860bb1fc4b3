package exchange_test

import (
	"fmt"
	"math"
	"slices"
	"strconv"
	"strings"
	"testing"

	"bourse/accounts"
	"bourse/api"
	"bourse/clearing"
	"bourse/console"
	"bourse/exchange"
	"bourse/feed"
	"bourse/num"
	"bourse/phases"
	"bourse/risk"
	"bourse/rules"
	. "bourse/sample"
	"bourse/session"
)

// The tests hold every answer against a model over floors in lists, which keeps no numbers of members: whose something is, it finds each time in the log of all that was told, and what a letter says, it reads and writes field by field.
type model struct {
	ledger  *accounts.Ledger
	house   *clearing.House
	places  []*place
	limits  map[uint32]api.Limits
	lines   map[uint32]*line
	reports []api.Report
}

// line is a member's session, and what waits for it.
type line struct {
	house *session.Session
	waits [][]byte
}

// place is an instrument.
type place struct {
	number   uint32
	name     string
	part, by uint32
	floor    *phases.Floor
	desk     *risk.Desk
	shows    *feed.Publisher
	stats    *console.Stats
	log      []entry
}

// entry is an event, and of which request.
type entry struct {
	asked api.Request
	event api.Event
}

func modelOf(t *testing.T, tariff api.Tariff, cents uint64) *model {
	t.Helper()
	l, why := accounts.New(tariff)
	Same(t, "New", why, api.OK)
	return &model{ledger: l, house: clearing.New(cents), limits: map[uint32]api.Limits{}, lines: map[uint32]*line{}}
}

func (m *model) list(t *testing.T, name string, s api.Session, part, by uint32) {
	t.Helper()
	s.Engine = api.List
	f, why := phases.New(s)
	Same(t, "New", why, api.OK)
	p := &place{number: uint32(len(m.places) + 1), name: name, part: part, by: by, floor: f, desk: risk.New(), stats: console.NewStats()}
	p.shows, _ = feed.NewPublisher(10)
	for n, l := range m.limits {
		Same(t, "Set", p.desk.Set(n, l), api.OK)
	}
	m.places = append(m.places, p)
}

func (m *model) join(t *testing.T, member uint32, l api.Limits, fund, cents uint64) {
	t.Helper()
	m.limits[member] = l
	Same(t, "Open", m.ledger.Open(member), api.OK)
	Same(t, "Join", m.house.Join(api.Fund{Member: member, Cents: fund}), api.OK)
	if cents > 0 {
		Same(t, "Deposit", m.ledger.Deposit(member, num.Cents(int64(cents))), api.OK)
	}
	for _, p := range m.places {
		Same(t, "Set", p.desk.Set(member, l), api.OK)
	}
}

// stopOf is whose a stop order is.
func (p *place) stopOf(number uint64) own {
	for _, e := range p.log {
		if e.event.Kind == 6 && e.event.Reason == 0 && e.event.ID == number {
			return own{e.asked.Member, e.asked.Ref}
		}
	}
	panic("a stop order of nobody's")
}

// byStop tells whether an entry stands right behind that a stop order is let go, and of which one it comes.
func (p *place) byStop(at int) (own, bool) {
	if at == 0 || p.log[at-1].event.Kind != 7 {
		return own{}, false
	}
	return p.stopOf(p.log[at-1].event.ID), true
}

// ackOf is whose the order is that an entry acks.
func (p *place) ackOf(at int) own {
	if o, ok := p.byStop(at); ok {
		return o
	}
	return own{p.log[at].asked.Member, p.log[at].asked.Ref}
}

// orderOf is whose an order is.
func (p *place) orderOf(id uint64) own {
	for at, e := range p.log {
		if e.event.Kind == 1 && e.event.ID == id {
			return p.ackOf(at)
		}
	}
	panic("an order of nobody's")
}

// orderUnder is the ID of the order that is a member's under its number, 0 if there never was one.
func (p *place) orderUnder(o own) uint64 {
	id := uint64(0)
	for at, e := range p.log {
		if e.event.Kind == 1 && p.ackOf(at) == o {
			id = e.event.ID
		}
	}
	return id
}

// stopUnder is the same of stop orders.
func (p *place) stopUnder(o own) uint64 {
	number := uint64(0)
	for _, e := range p.log {
		if e.event.Kind == 6 && e.event.Reason == 0 && (own{e.asked.Member, e.asked.Ref}) == o {
			number = e.event.ID
		}
	}
	return number
}

// taken is how many stop orders the floor took.
func (p *place) taken() uint64 {
	n := uint64(0)
	for _, e := range p.log {
		if e.event.Kind == 6 && e.event.Reason == 0 {
			n = max(n, e.event.ID)
		}
	}
	return n
}

func (m *model) place(n uint32) *place {
	for _, p := range m.places {
		if p.number == n {
			return p
		}
	}
	return nil
}

// commandOf is a request as a command, with no field that its kind has not.
func (p *place) commandOf(q api.Request) api.Command {
	o := own{q.Member, q.Target}
	next := p.floor.High() + 1
	switch q.Kind {
	case 2:
		return api.Command{Kind: 2, Member: q.Member, Target: p.orderUnder(o)}
	case 3:
		return api.Command{Kind: 3, Member: q.Member, Target: p.orderUnder(o), ID: next, Price: q.Price, Qty: q.Qty, Peak: q.Peak}
	}
	return api.Command{Kind: 1, Member: q.Member, ID: next, Side: q.Side, Type: q.Type, Price: q.Price, Qty: q.Qty, Peak: q.Peak}
}

func (m *model) out(member uint32) bool {
	for _, s := range m.house.Standings() {
		if s.Member == member && s.Out {
			return true
		}
	}
	return false
}

// ahead is what a request is refused for ahead of the floor.
func (m *model) ahead(q api.Request) api.Errno {
	p := m.place(q.Instrument)
	if p == nil {
		return 260
	}
	if _, ok := m.limits[q.Member]; !ok {
		return 200
	}
	if m.out(q.Member) {
		return 221
	}
	if q.Kind < 1 || q.Kind > 5 {
		return 90
	}
	o := own{q.Member, q.Ref}
	if q.Kind != 2 && q.Kind != 5 && (q.Ref == 0 || p.orderUnder(o) != 0 || p.stopUnder(o) != 0) {
		return 262
	}
	if q.Kind == 5 {
		return 0
	}
	return p.desk.Ahead(p.commandOf(q))
}

func (m *model) send(t *testing.T, q api.Request) []api.Report {
	t.Helper()
	if why := m.ahead(q); why != 0 {
		r := api.Report{Member: q.Member, Instrument: q.Instrument, Ref: q.Ref, Target: q.Target, Event: api.Event{Kind: 2, Code: why}}
		return m.tell(t, r, false)
	}
	p := m.place(q.Instrument)
	var events []api.Event
	switch q.Kind {
	case 4:
		events = p.floor.Stop(api.Stop{Number: p.taken() + 1, Member: q.Member, Side: q.Side, Type: q.Type, Trigger: q.Trigger, Price: q.Price, Qty: q.Qty, Peak: q.Peak})
	case 5:
		events = p.floor.Withdraw(p.stopUnder(own{q.Member, q.Target}))
	default:
		events = p.floor.Do(api.Order{Command: p.commandOf(q), Day: q.Day})
	}
	return m.worked(t, p, q, events)
}

// tell numbers a report, and sends it as a letter; other: it is of the order Other of a trade.
func (m *model) tell(t *testing.T, r api.Report, other bool) []api.Report {
	t.Helper()
	r.Seq = uint64(len(m.reports) + 1)
	m.reports = append(m.reports, r)
	if l := m.lines[r.Member]; l != nil {
		if fields := m.letter(r, other); fields != "" {
			lines, _ := l.house.Send(read("8", fields))
			l.waits = append(l.waits, lines...)
		}
	}
	return []api.Report{r}
}

// letter is the fields of a report's letter; none: there is no such letter.
func (m *model) letter(r api.Report, other bool) string {
	p := m.place(r.Instrument)
	if p == nil {
		return ""
	}
	e := r.Event
	head := fmt.Sprintf("55=%s|17=%d|150=%d|11=%d", p.name, r.Seq, e.Kind, r.Ref)
	switch e.Kind {
	case 1:
		return head + fmt.Sprintf("|1=%d|54=%d|40=%d|44=%d|38=%d|210=%d", e.Member, e.Side, e.Type, e.Price, e.Qty, e.Peak)
	case 2:
		return head + fmt.Sprintf("|41=%d|103=%d", r.Target, int(e.Code))
	case 3:
		side := e.Side
		if other {
			side = map[int]int{1: 2, 2: 1}[side]
		}
		return head + fmt.Sprintf("|37=0|54=%d|44=%d|38=%d", side, e.Price, e.Qty)
	case 4:
		return head + fmt.Sprintf("|38=%d|378=%d", e.Qty, e.Reason)
	case 5:
		return head + fmt.Sprintf("|44=%d|38=%d", e.Price, e.Qty)
	}
	return ""
}

// worked is what is told of events, behind which all books have them.
func (m *model) worked(t *testing.T, p *place, q api.Request, events []api.Event) []api.Report {
	t.Helper()
	var told []api.Report
	for _, e := range events {
		p.log = append(p.log, entry{q, e})
		at := len(p.log) - 1
		report := func(o own, target uint64, other bool) {
			told = append(told, m.tell(t, api.Report{Member: o.member, Instrument: p.number, Ref: o.ref, Target: target, Event: e}, other)...)
		}
		switch e.Kind {
		case 1:
			report(own{e.Member, p.ackOf(at).ref}, 0, false)
		case 2:
			if o, ok := p.byStop(at); ok && p.log[at-1].event.Other == e.ID {
				report(o, 0, false)
			} else {
				report(own{q.Member, q.Ref}, q.Target, false)
			}
		case 3:
			report(p.orderOf(e.ID), 0, false)
			report(p.orderOf(e.Other), 0, true)
		case 4, 5:
			report(p.orderOf(e.ID), 0, false)
		case 6, 7:
			report(p.stopOf(e.ID), 0, false)
		case 8, 9, 20:
			report(own{}, 0, false)
		default:
			t.Fatalf("no floor tells %+v", e)
		}
	}
	m.booked(p, events)
	return told
}

func (m *model) booked(p *place, events []api.Event) {
	for _, e := range events {
		p.desk.Behind([]api.Event{e})
		p.stats.Add([]api.Event{e})
		if e.Kind != 3 {
			continue
		}
		d := api.Deal{Instrument: p.number, Taker: e.Side, Price: e.Price, Qty: e.Qty}
		if e.Side == 1 {
			d.Buyer, d.Seller = p.orderOf(e.ID).member, p.orderOf(e.Other).member
		} else {
			d.Buyer, d.Seller = p.orderOf(e.Other).member, p.orderOf(e.ID).member
		}
		m.ledger.Book(d)
		m.house.Take(d)
	}
	x := p.floor.Book()
	p.shows.Publish(levelsOf(x.Buys), levelsOf(x.Sells), events)
}

// levelsOf is the first ten levels of a side's orders.
func levelsOf(l []api.Resting) []api.Level {
	var out []api.Level
	for _, o := range l {
		if n := len(out); n > 0 && out[n-1].Price == o.Price {
			out[n-1].Qty += o.Visible
			out[n-1].Count++
			continue
		}
		out = append(out, api.Level{Price: o.Price, Qty: o.Visible, Count: 1})
	}
	return out[:min(10, len(out))]
}

func (m *model) turn(t *testing.T, n uint32, phase int) ([]api.Report, api.Errno) {
	t.Helper()
	p := m.place(n)
	if p == nil {
		return nil, 260
	}
	events, why := p.floor.Turn(phase)
	if why != 0 {
		return nil, why
	}
	return m.worked(t, p, api.Request{}, events), 0
}

func (m *model) kill(t *testing.T, member uint32) ([]api.Report, api.Errno) {
	t.Helper()
	if _, ok := m.limits[member]; !ok {
		return nil, 200
	}
	var told []api.Report
	for _, p := range m.places {
		ids, why := p.desk.Kill(member)
		Same(t, "Kill", why, api.OK)
		for _, id := range ids {
			q := api.Request{Member: member, Instrument: p.number, Target: p.orderOf(id).ref}
			told = append(told, m.worked(t, p, q, p.floor.Do(api.Order{Command: api.Command{Kind: 2, Target: id}}))...)
		}
		for _, s := range p.floor.Pending() {
			if s.Member == member {
				q := api.Request{Member: member, Instrument: p.number, Target: p.stopOf(s.Number).ref}
				told = append(told, m.worked(t, p, q, p.floor.Withdraw(s.Number))...)
			}
		}
	}
	return told, 0
}

// closing is what Settle answers, as a text, and what is told.
func (m *model) settle(t *testing.T) (string, []api.Report, api.Errno) {
	t.Helper()
	var rates []api.Rate
	for _, p := range m.places {
		if p.floor.Phase() != 0 {
			return "", nil, 160
		}
		rates = append(rates, api.Rate{Instrument: p.number, Price: p.floor.Reference(), Part: p.part, By: p.by})
	}
	calls, falls, why := m.house.Close(rates)
	Same(t, "Close", why, api.OK)
	var told []api.Report
	for _, f := range falls {
		l, _ := m.kill(t, f.Member)
		told = append(told, l...)
	}
	return closing(calls, falls), told, 0
}

// closing is calls and falls as a text.
func closing(calls []clearing.Call, falls []clearing.Fall) string {
	s := ""
	for _, c := range calls {
		s += fmt.Sprintln("call", c.Member, c.Need.Text(), c.Have.Text())
	}
	for _, f := range falls {
		s += fmt.Sprintln("fall", f)
	}
	return s
}

// fits tells whether a field's value is a number's one form, at most as great.
func fits(value string, most uint64) (uint64, bool) {
	n, err := strconv.ParseUint(value, 10, 64)
	return n, err == nil && strconv.FormatUint(n, 10) == value && n <= most
}

// request reads a letter field by field.
func (m *model) request(member uint32, l api.Letter) (api.Request, bool) {
	tags := map[string][]int{"D": {55, 59, 11, 1, 54, 40, 44, 38, 210}, "F": {55, 41}, "G": {55, 41, 11, 44, 38, 210}}[l.Kind]
	if len(tags) == 0 || len(l.Tags) != len(tags) {
		return api.Request{}, false
	}
	q := api.Request{Member: member, Kind: strings.Index(" DFG", l.Kind)}
	for i, f := range l.Tags {
		if f.Tag != tags[i] {
			return api.Request{}, false
		}
		if f.Tag == 55 {
			at := slices.IndexFunc(m.places, func(p *place) bool { return p.name == f.Value })
			if at < 0 {
				return api.Request{}, false
			}
			q.Instrument = uint32(at + 1)
			continue
		}
		most := map[int]uint64{1: math.MaxUint32, 54: 255, 40: 255, 44: math.MaxUint32, 59: 1}[f.Tag]
		if most == 0 {
			most = math.MaxUint64
		}
		n, ok := fits(f.Value, most)
		if !ok || f.Tag == 1 && n != uint64(member) {
			return api.Request{}, false
		}
		switch f.Tag {
		case 59:
			q.Day = n == 0
		case 11:
			q.Ref = n
		case 41:
			q.Target = n
		case 54:
			q.Side = int(n)
		case 40:
			q.Type = int(n)
		case 44:
			q.Price = int(n)
		case 38:
			q.Qty = n
		case 210:
			q.Peak = n
		}
	}
	return q, true
}

func (m *model) dial(member uint32, name string) api.Errno {
	if _, ok := m.limits[member]; !ok {
		return 200
	}
	if m.lines[member] != nil {
		return 81
	}
	s, why := session.New("BRS", name, false)
	if why != 0 {
		return 1
	}
	m.lines[member] = &line{house: s}
	return 0
}

func (m *model) take(t *testing.T, member uint32, b []byte) api.Errno {
	t.Helper()
	if _, ok := m.limits[member]; !ok {
		return 200
	}
	l := m.lines[member]
	if l == nil {
		return 263
	}
	letters, lines, why := l.house.Take(b)
	if why != 0 {
		return why
	}
	l.waits = append(l.waits, lines...)
	for _, letter := range letters {
		if q, ok := m.request(member, letter); ok {
			m.send(t, q)
			continue
		}
		lines, _ := l.house.Send(api.Letter{Kind: "3", Tags: []api.Tag{{Tag: 58, Value: "41"}}})
		l.waits = append(l.waits, lines...)
	}
	return 0
}

// asked is what asked of an exchange answers.
func (m *model) asked() string {
	var b strings.Builder
	var names []string
	for _, p := range m.places {
		names = append(names, p.name)
	}
	fmt.Fprintln(&b, names, m.ledger.Balance(api.Account{Kind: 2}).Text())
	for i := range uint32(len(m.places) + 2) {
		p := m.place(i)
		if p == nil {
			fmt.Fprintf(&b, "%d: %d %+v %+v %+v\n", i, 0, api.Book{}, api.Picture{}, api.Bar{})
		} else {
			x := p.floor.Book()
			e, _ := rules.New(x.Config)
			e.Load(x)
			fmt.Fprintf(&b, "%d: %d %+v %+v %+v\n%s", i, p.floor.Phase(), x, p.shows.Picture(), p.stats.Day(), console.Report(p.name, e, p.stats, 20))
		}
		for _, n := range somebody() {
			pos := m.ledger.Position(n, i)
			s, there := api.Standing{}, false
			if p != nil {
				s, there = p.desk.Standing(n)
			}
			fmt.Fprintln(&b, n, pos.Qty, pos.Cost.Text(), pos.Gain.Text(), s, there)
		}
	}
	for _, n := range somebody() {
		var st clearing.Standing
		there := false
		for _, s := range m.house.Standings() {
			if s.Member == n {
				st, there = s, true
			}
		}
		fmt.Fprintln(&b, n, m.ledger.Balance(api.Account{Member: n, Kind: 1}).Text(), st.Member, st.Fund, st.Margin.Text(), st.Called, st.Out, there)
	}
	return b.String()
}

// twin is an exchange and its model, to which all is done alike.
type twin struct {
	x       *exchange.Exchange
	m       *model
	clients map[uint32]*session.Session
	way     map[uint32][][]byte // what clients sent, and may come
	refs    map[uint32]uint64   // the last number of each member
	told    [][]api.Report      // what calls told that answer it, in their order
}

// same holds what is told of a call.
func (w *twin) same(t *testing.T, got, want []api.Report) {
	t.Helper()
	SameList(t, "what is told", got, want)
	w.told = append(w.told, got)
}

func (w *twin) send(t *testing.T, q api.Request) {
	t.Helper()
	w.same(t, w.x.Send(q), w.m.send(t, q))
}

func (w *twin) turn(t *testing.T, n uint32, phase int) {
	t.Helper()
	got, why := w.x.Turn(n, phase)
	want, wantWhy := w.m.turn(t, n, phase)
	Same(t, "Turn", why, wantWhy)
	w.same(t, got, want)
}

func (w *twin) kill(t *testing.T, member uint32) {
	t.Helper()
	got, why := w.x.Kill(member)
	want, wantWhy := w.m.kill(t, member)
	Same(t, "Kill", why, wantWhy)
	w.same(t, got, want)
}

func (w *twin) revive(t *testing.T, member uint32) {
	t.Helper()
	_, there := w.m.limits[member]
	Same(t, "Revive", w.x.Revive(member) == 0, there)
	for _, p := range w.m.places {
		p.desk.Revive(member)
	}
}

func (w *twin) settle(t *testing.T) {
	t.Helper()
	calls, falls, got, why := w.x.Settle()
	text, want, wantWhy := w.m.settle(t)
	Same(t, "Settle", why, wantWhy)
	Same(t, "calls and falls", closing(calls, falls), text)
	w.same(t, got, want)
}

func (w *twin) pay(t *testing.T, member uint32, cents uint64) {
	t.Helper()
	Same(t, "Pay", w.x.Pay(member, cents), w.m.house.Pay(member, cents))
}

func (w *twin) take(t *testing.T, member uint32, b []byte) {
	t.Helper()
	Same(t, "Take", w.x.Take(member, b), w.m.take(t, member, b))
}

func (w *twin) tick() {
	w.x.Tick()
	for _, l := range w.m.lines {
		l.waits = append(l.waits, l.house.Tick()...)
	}
}

// lines gives out what waits for a member.
func (w *twin) lines(t *testing.T, member uint32) [][]byte {
	t.Helper()
	got := w.x.Lines(member)
	var want [][]byte
	if l := w.m.lines[member]; l != nil {
		want, l.waits = l.waits, nil
	}
	Same(t, "lines", len(got), len(want))
	for i := range got {
		SameBytes(t, "a line", got[i], want[i])
	}
	return got
}

// looked holds all that can be asked.
func (w *twin) looked(t *testing.T) {
	t.Helper()
	Same(t, "Seq", w.x.Seq(), uint64(len(w.m.reports)))
	got, want := strings.Split(asked(w.x), "\n"), strings.Split(w.m.asked(), "\n")
	SameList(t, "what can be asked", got, want)
}

// mail is the letter of a request, as a client writes it.
func mail(q api.Request, name string) api.Letter {
	day := "1"
	if q.Day {
		day = "0"
	}
	switch q.Kind {
	case 2:
		return read("F", fmt.Sprintf("55=%s|41=%d", name, q.Target))
	case 3:
		return read("G", fmt.Sprintf("55=%s|41=%d|11=%d|44=%d|38=%d|210=%d", name, q.Target, q.Ref, q.Price, q.Qty, q.Peak))
	}
	return read("D", fmt.Sprintf("55=%s|59=%s|11=%d|1=%d|54=%d|40=%d|44=%d|38=%d|210=%d", name, day, q.Ref, q.Member, q.Side, q.Type, q.Price, q.Qty, q.Peak))
}
