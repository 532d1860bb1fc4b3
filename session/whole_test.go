package session_test

import (
	"strings"
	"testing"

	"bourse/api"
	. "bourse/sample"
	"bourse/session"
)

// wildLetter is one of which most can be.
func wildLetter(x *Mixer) api.Letter {
	l := letter(Pick(x, "D", "D", "8", "AB", "00", "a", "3"))
	for i := range x.Below(4) {
		l.Tags = append(l.Tags, api.Tag{Tag: 100*i + 1 + x.Below(33), Value: Pick(x, "7", "x|y", "a=b", " ", "34=1")})
	}
	if x.Below(8) > 0 {
		return l
	}
	switch x.Below(5) {
	case 0:
		l.Kind = Pick(x, "A", "0", "2", "4", "5")
	case 1:
		l.Kind = Pick(x, "", "ABC", "-")
	case 2:
		l.Tags = append(l.Tags, api.Tag{Tag: Pick(x, 34, 49, 56, 43, 8, 0, -1, 10000), Value: "x"})
	case 3:
		l.Tags = append(l.Tags, api.Tag{Tag: 99, Value: Pick(x, "", "\x01", "é")})
	default:
		l = Pick(x, many(61), long("ANN", 0), long("ANN", 1))
	}
	return l
}

// wildLine is a line to the end, of a number near those that it waits for; it may be one that can't be.
func wildLine(x *Mixer, k api.Link) string {
	n := k.In + uint64(Pick(x, 1, 1, 1, 1, 0, 2, 3, 9))
	if x.Below(40) == 0 {
		n = Pick[uint64](x, 0, 1, top, 1<<63)
	}
	kind := Pick(x, "A", "A", "0", "2", "2", "4", "5", "D", "D", "8", "AB")
	rest := map[string]string{"2": "7=" + decimal(k.Out+3-min(k.Out, uint64(x.Below(9)))) + "|", "4": "36=" + decimal(n+uint64(x.Below(3))) + "|"}[kind]
	if kind == "D" || kind == "8" {
		rest = Pick(x, "", "11=7|", "7=0|36=0|")
	}
	if x.Below(4) == 0 {
		rest = "43=Y|" + rest
	}
	if x.Below(30) == 0 {
		rest = Pick(x, "", "43=N|"+rest, rest+"43=Y|", rest+"9999=x|", "7=0|", "36=1|", "34=1|", "11=|")
	}
	own := Pick(x, "", k.Own)
	if own == "" || x.Below(10) > 0 {
		own = k.Peer
	}
	s := from(own, kind, n, rest)
	if x.Below(30) == 0 {
		s = Pick(x, s+"x", s[:len(s)-1], s[1:], strings.Replace(s, "35=", "34=", 1))
	}
	return s
}

// wildLink is what an end keeps, at the ends of its numbers too.
func wildLink(x *Mixer) api.Link {
	k := on(x.Below(2) == 0, uint64(x.Below(5)), uint64(x.Below(5)))
	switch x.Below(3) {
	case 0:
		k.On = false
	case 1:
		k.On, k.Done = false, true
	}
	k.Asked, k.Quiet, k.Calm = uint64(x.Below(6)), x.Below(12), x.Below(25)
	if x.Below(9) == 0 {
		k.Quiet, k.Calm = 1<<31-x.Below(12), 1<<31-x.Below(30)
	}
	if x.Below(9) == 0 {
		k.In = top - uint64(x.Below(9))
	}
	for n := uint64(1); n <= k.Out; n++ {
		if x.Below(3) == 0 {
			k.Sent = append(k.Sent, api.Sent{Number: n, Letter: numbered(x.Below(99))})
		}
	}
	return k
}

// step does something wild to an end and to its model, and holds their answers against each other.
func step(t *testing.T, x *Mixer, s *session.Session, m *model, count func(what string, why api.Errno)) {
	t.Helper()
	var out [][]byte
	var want, told string
	var l []api.Letter
	var why, whyNot api.Errno
	what := Pick(x, "Begin", "End", "Send", "Send", "Tick", "Tick", "Tick", "Tick", "Take", "Take", "Take", "Take", "Take")
	switch what {
	case "Begin":
		out, why = s.Begin()
		want, whyNot = m.begin()
	case "End":
		if x.Below(3) == 0 {
			out, why = s.End()
			want, whyNot = m.end()
		}
	case "Send":
		y := wildLetter(x)
		out, why = s.Send(y)
		want, whyNot = m.sends(y)
	case "Tick":
		out, want = s.Tick(), m.tick()
	case "Take":
		line := wildLine(x, m.Link)
		l, out, why = s.Take([]byte(line))
		told, want, whyNot = m.take([]byte(line))
	}
	Same(t, what, why, whyNot)
	Same(t, "the lines of "+what, lines(out), want)
	Same(t, "the letters of "+what, written(l), told)
	keeps(t, s, m.state())
	count(what, why)
}

func TestP23_5Model(t *testing.T) {
	answers := map[string]map[api.Errno]int{"Begin": {}, "End": {}, "Send": {}, "Tick": {}, "Take": {}}
	for seed := range 400 {
		x := Mixer(seed)
		k := wildLink(&x)
		s, m := opens(t, k), modelOf(k)
		for range 120 {
			step(t, &x, s, m, func(what string, why api.Errno) { answers[what][why]++ })
		}
	}
	for what, l := range map[string][]api.Errno{
		"Begin": {api.OK, api.ErrLogon}, "End": {api.OK, api.ErrOff}, "Send": {api.OK, api.ErrOff, api.ErrForm, api.ErrArg, api.ErrTag, api.ErrValue, api.ErrLong},
		"Take": {api.OK, api.ErrLetter, api.ErrShort, api.ErrForm, api.ErrTag, api.ErrTrail},
	} {
		for _, why := range l {
			if answers[what][why] < 50 {
				t.Fatalf("%s answered %v %d times alone", what, why, answers[what][why])
			}
		}
	}
}

// An end that is opened anew at each step goes on as the one that never is.
func TestP23_8GoesOn(t *testing.T) {
	for seed := range 200 {
		x := Mixer(seed)
		k := wildLink(&x)
		a, b := opens(t, k), opens(t, k)
		for range 80 {
			y := x
			step(t, &x, a, modelOf(a.State()), func(string, api.Errno) {})
			step(t, &y, b, modelOf(b.State()), func(string, api.Errno) {})
			keeps(t, b, a.State())
			b = opens(t, b.State())
		}
	}
}

func TestP23_8Edge(t *testing.T) {
	s := opens(t, on(true, 4, 1<<62-1))
	out, why := s.Send(numbered(1))
	says(t, out, why, from("ANN", "D", 1<<62, "11=1|"))
	b := opens(t, s.State())
	for _, e := range []*session.Session{s, b} { // numbers go on above what can be opened
		out, why = e.Send(numbered(2))
		says(t, out, why, from("ANN", "D", 1<<62+1, "11=2|"))
		takes(t, e, from("BRS", "2", 5, "7=4611686018427387904|"), nil, from("ANN", "D", 1<<62, "43=Y|11=1|"), from("ANN", "D", 1<<62+1, "43=Y|11=2|"))
	}
	Same(t, "State", link(b.State()), link(s.State()))
	c, why := session.Open(s.State())
	if c != nil || why != api.ErrArg {
		t.Fatalf("Open behind 2^62: %v, %v", c, why)
	}
}

// side is an end on a line: what it sent, what it handed on, and what is on the way to it.
type side struct {
	*session.Session
	sent, told []api.Letter
	way        [][]byte
}

// pair is two ends and the line between them.
type pair struct {
	t     *testing.T
	sides [2]*side
}

func newPair(t *testing.T) *pair {
	t.Helper()
	return &pair{t, [2]*side{{Session: opens(t, api.Link{Own: "ANN", Peer: "BRS", First: true})}, {Session: opens(t, api.Link{Own: "BRS", Peer: "ANN"})}}}
}

// goes puts lines of an end on their way.
func (p *pair) goes(from int, l [][]byte) {
	p.sides[1-from].way = append(p.sides[1-from].way, l...)
}

func (p *pair) send(from int, l api.Letter) {
	out, why := p.sides[from].Send(l)
	if why == api.OK {
		p.sides[from].sent = append(p.sides[from].sent, l)
	}
	p.goes(from, out)
}

// take lets an end take a line, and holds all that it handed on against what the other one sent.
func (p *pair) take(to int, b []byte) {
	p.t.Helper()
	a, from := p.sides[to], p.sides[1-to]
	l, out, why := a.Take(b)
	Same(p.t, "Take", why, api.OK)
	p.goes(to, out)
	a.told = append(a.told, l...)
	if len(a.told) > len(from.sent) {
		p.t.Fatalf("%d handed on of %d sent", len(a.told), len(from.sent))
	}
	Same(p.t, "handed on", written(a.told), written(from.sent[:len(a.told)]))
}

// spoilt is a line with one byte changed.
func spoilt(x *Mixer, b []byte) []byte {
	b = append([]byte(nil), b...)
	b[x.Below(len(b))] ^= byte(1 + x.Below(255))
	return b
}

// bad lets something happen on a bad line: one of those on their way, not always the first one, is lost, doubled or spoilt, or comes.
func (p *pair) bad(x *Mixer, to int) {
	p.t.Helper()
	a := p.sides[to]
	if len(a.way) == 0 {
		return
	}
	i := Pick(x, 0, 0, 0, 0, x.Below(len(a.way)))
	b := a.way[i]
	switch x.Below(20) {
	case 0:
	case 1:
		p.take(to, b)
		return // it stays on its way, and may come again
	case 2:
		refused(p.t, a.Session, spoilt(x, b))
	default:
		p.take(to, b)
	}
	a.way = append(a.way[:i:i], a.way[i+1:]...)
}

// refused lets an end take a spoilt line.
func refused(t *testing.T, s *session.Session, b []byte) {
	t.Helper()
	before := link(s.State())
	l, out, why := s.Take(b)
	if why == api.OK || len(l) != 0 || len(out) != 0 {
		t.Fatalf("Take of the spoilt %q: %v, %q, %v", b, l, out, why)
	}
	Same(t, "behind a spoilt line", link(s.State()), before)
}

// runs lets the ends talk over a bad line; off is of how many steps one logs off, 0: never.
func (p *pair) runs(x *Mixer, steps, off int) {
	p.t.Helper()
	out, why := p.sides[0].Begin()
	Same(p.t, "Begin", why, api.OK)
	p.goes(0, out)
	sent := 0
	for range steps {
		from := x.Below(2)
		switch x.Below(16) {
		case 0:
			sent++
			p.send(from, numbered(sent))
		case 1:
			p.goes(from, p.sides[from].Tick())
		default:
			p.bad(x, from)
		}
		if off > 0 && x.Below(off) == 0 {
			out, _ := p.sides[from].End()
			p.goes(from, out)
		} else if off > 0 && x.Below(off/2) == 0 {
			out, _ := p.sides[0].Begin()
			p.goes(0, out)
		}
	}
}

// settles lets all that is on its way come, in order, till nothing is.
func (p *pair) settles() {
	p.t.Helper()
	for i := range 100000 {
		a := p.sides[i%2]
		for range len(a.way) {
			b := a.way[0]
			a.way = a.way[1:]
			p.take(i%2, b)
		}
		if len(p.sides[0].way)+len(p.sides[1].way) == 0 {
			return
		}
	}
	p.t.Fatalf("the ends talk for ever")
}

func TestP23_6Once(t *testing.T) {
	handed, waiting := 0, 0
	for seed := range 300 {
		x := Mixer(seed)
		p := newPair(t)
		p.runs(&x, 900, Pick(&x, 0, 0, 100, 300))
		for i, a := range p.sides {
			handed += len(a.told)
			waiting += len(p.sides[1-i].sent) - len(a.told)
		}
	}
	if handed < 5000 || waiting < 500 {
		t.Fatalf("%d letters were handed on, %d were not yet: the runs hold too little", handed, waiting)
	}
}

// A line that is spoilt in one byte, whatever that becomes, is refused.
func TestP23_6Spoilt(t *testing.T) {
	s := opens(t, on(false, 4, 4))
	before := link(s.State())
	for _, line := range []string{from("ANN", "D", 5, "11=7|"), from("ANN", "2", 5, "43=Y|7=1|"), from("ANN", "4", 5, "36=17|"), from("ANN", "A", 5, ""), from("ANN", "5", 5, ""), from("ANN", "8", 12, "1=10=000|10=8|")} {
		for i := range line {
			for c := range 256 {
				b := []byte(line)
				if b[i] == byte(c) {
					continue
				}
				b[i] = byte(c)
				l, out, why := s.Take(b)
				if why == api.OK || len(l)+len(out) != 0 {
					t.Fatalf("Take of the spoilt %q: %v, %q, %v", b, l, out, why)
				}
			}
		}
	}
	Same(t, "behind spoilt lines", link(s.State()), before)
}

// ticks lets so many ticks of both pass, all that comes of each being taken ahead of the next one.
func (p *pair) ticks(n int) {
	p.t.Helper()
	for range n {
		for i, a := range p.sides {
			p.goes(i, a.Tick())
			p.settles()
		}
	}
}

// allCame ends a test where a letter was not handed on.
func (p *pair) allCame() {
	p.t.Helper()
	for i, a := range p.sides {
		Same(p.t, "all that was handed on", written(a.told), written(p.sides[1-i].sent))
	}
}

func TestP23_7All(t *testing.T) {
	held, late := 0, 0
	for seed := range 300 {
		x := Mixer(seed)
		p := newPair(t)
		p.runs(&x, 700, Pick(&x, 0, 0, 150))
		for i, a := range p.sides { // what is on its way is lost
			a.way = nil
			if x.Below(4) == 0 {
				p.send(i, numbered(1000))
			}
		}
		if !p.sides[0].State().On || !p.sides[1].State().On {
			continue
		}
		held++
		p.settles()
		if len(p.sides[0].told) < len(p.sides[1].sent) {
			late++
		}
		p.ticks(40)
		p.allCame()
	}
	if held < 100 || late < 30 {
		t.Fatalf("%d runs with both ends on, %d in which something was missing: they hold too little", held, late)
	}
}

// However long the ends were calm, what is missing is asked for again.
func TestP23_7Calm(t *testing.T) {
	for calm := 1<<31 - 41; calm > 1<<31-62; calm-- {
		for lost := range 3 {
			p := newPair(t)
			out, _ := p.sides[0].Begin()
			p.goes(0, out)
			p.settles()
			for i, a := range p.sides {
				p.send(i, numbered(1))
				p.send(i, numbered(2))
				p.sides[1-i].way = p.sides[1-i].way[lost:] // the first ones are lost
				k := a.State()
				k.Calm = calm
				if lost == 1 {
					k.Asked = k.In + 1 // and the ask for them was, too
				}
				a.Session = opens(t, k)
			}
			p.ticks(40)
			p.allCame()
		}
	}
}
