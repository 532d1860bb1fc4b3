package market_test

import (
	"fmt"
	"slices"
	"strconv"
	"strings"
	"testing"

	"bourse/api"
	"bourse/market"
	. "bourse/sample"
)

// play is a script of so many commands or fewer, as somebody would write it, who sees what the model tells.
func play(mix *Mixer, commands int) *model {
	m := newModel()
	if mix.Below(4) == 0 {
		m.gap(Pick(mix, "", "# a day", "   "))
	}
	m.say("market %d %d %d %d", mix.Below(3), mix.Below(5), Pick(mix, 10, 100, 1000), mix.Below(1000))
	for i := range 1 + mix.Below(2) {
		m.list(mix, []string{"ABC", "X"}[i])
	}
	for _, member := range []int{7, 8, 9} {
		m.join(mix, member)
	}
	for _, member := range []int{7, 8, 9} {
		if mix.Below(5) > 0 {
			m.say("dial %d CLIENT", member)
			m.say("logon %d", member)
			m.say("pass %d 1", member)
			m.say("fetch %d", member)
		}
	}
	for m.says < commands-20 {
		if mix.Below(12) == 0 {
			m.gap(Pick(mix, "", "# kill 7", "  #", "      "))
		}
		m.step(mix)
	}
	return m
}

func (m *model) list(mix *Mixer, name string) {
	m.say("list %s %d %d %d %d %d %d %d %d 10", name, 3+mix.Below(20), mix.Below(4), Pick(mix, Kinds()...), 60, Pick(mix, 8, 15, 262144), Pick(mix, 3, 6, 262144), mix.Below(5), mix.Below(4))
}

func (m *model) join(mix *Mixer, member int) {
	limits := Pick(mix, "15 25 3 20 900", "1000 1000 50 1000 100000", "18446744073709551615 18446744073709551615 999999999 18446744073709551615 18446744073709551615")
	m.say("join %d %s %d %d", member, limits, mix.Below(500), mix.Below(100000))
	if mix.Below(3) > 0 {
		m.say("pay %d 100000", member)
	}
}

// name is most often an instrument's.
func (m *model) name(mix *Mixer) string {
	if mix.Below(30) == 0 {
		return "NONE"
	}
	return Pick(mix, m.names...)
}

func (m *model) member(mix *Mixer) int {
	if mix.Below(40) == 0 {
		return Pick(mix, 1, 4294967295)
	}
	return Pick(mix, 7, 8, 9)
}

// step says something.
func (m *model) step(mix *Mixer) {
	switch n := mix.Below(100); {
	case n < 40:
		m.order(mix)
	case n < 62:
		m.passes(mix)
	case n < 72:
		m.say("%s %d", Pick(mix, "fetch", "fetch", "fetch", "fetch", "drop"), m.member(mix))
	case n < 80:
		m.looks(mix)
	case n < 86:
		m.turns(mix)
	case n < 90:
		m.say("engine %s %d", m.name(mix), Pick(mix, 1, 2, 3, 1, 2, 3, 0, 4))
	case n < 92:
		m.say("ticks %d", m.member(mix))
	case n < 93:
		m.say("tick")
	case n < 95:
		m.say("%s %d", Pick(mix, "logon", "logon", "logoff"), m.member(mix))
	case n < 97:
		m.say("%s %d", Pick(mix, "kill", "revive", "revive"), m.member(mix))
	case n < 98:
		m.say("pay %d %d", m.member(mix), mix.Below(3000))
	case n < 99:
		m.say("dial %d %s", m.member(mix), Pick(mix, "ANN", "BRS", "ABCDEFGHIJKLMNOP"))
	default:
		m.endsDay(mix)
	}
}

// order is a request, by call or by letter.
func (m *model) order(mix *Mixer) {
	member := m.member(mix)
	ref := m.refs[uint32(member)] + 1
	target := ref - min(ref-1, uint64(1+mix.Below(5)))
	side, kind, price, qty, peak := Pick(mix, 1, 2), Pick(mix, 1, 1, 1, 1, 1, 2, 3, 4, 5), 52+mix.Below(17), 1+mix.Below(12), 0
	if kind == 1 && mix.Below(4) == 0 {
		peak = 1 + mix.Below(qty)
	}
	if kind == 2 {
		price = 0
	}
	switch mix.Below(60) {
	case 0:
		side = Pick(mix, 0, 3, 256)
	case 1:
		kind = Pick(mix, 0, 6, 300)
	case 2:
		price = Pick(mix, 0, 262144, 999999999)
	case 3:
		qty = 0
	case 4:
		ref = target
	}
	letter := Pick(mix, "", "mail")
	if m.ends[uint32(member)] == nil && mix.Below(8) > 0 {
		letter = ""
	}
	name := m.name(mix)
	switch mix.Below(12) {
	case 0, 1:
		m.say("%scancel %d %s %d", letter, member, name, target)
	case 2:
		m.say("%sreplace %d %s %d %d %d %d %d", letter, member, name, target, ref, max(1, price), qty, peak)
	case 3:
		m.say("stop %d %s %d %d %d %d %d %d %d", member, name, ref, side, kind, 52+mix.Below(17), price, qty, peak)
	case 4:
		m.say("withdraw %d %s %d", member, name, target)
	default:
		m.say("%snew %d %s %d %d %d %d %d %d %d", letter, member, name, ref, side, kind, price, qty, peak, mix.Below(3))
	}
}

// passes lets lines of a client come: most often the next one, or all; now and then one is never passed, or comes again.
func (m *model) passes(mix *Mixer) {
	member := m.member(mix)
	e := m.ends[uint32(member)]
	if e == nil {
		m.say("%s %d %d", Pick(mix, "pass", "again"), member, mix.Below(4))
		return
	}
	for range 1 + mix.Below(4) {
		switch n := mix.Below(20); {
		case n < 2:
			m.say("again %d %d", member, mix.Below(len(e.lines)+2))
		case n < 4:
			m.say("pass %d %d", member, mix.Below(len(e.lines)+2))
		default:
			for k := max(1, len(e.lines)-12); k <= len(e.lines); k++ {
				if !e.came[k] && mix.Below(6) > 0 {
					m.say("pass %d %d", member, k)
					break
				}
			}
		}
	}
}

func (m *model) looks(mix *Mixer) {
	switch mix.Below(8) {
	case 0:
		m.say("cash %d", m.member(mix))
	case 1:
		m.say("margin %d", m.member(mix))
	case 2:
		m.say("position %d %s", m.member(mix), m.name(mix))
	case 3:
		m.say("risk %d %s", m.member(mix), m.name(mix))
	case 4:
		m.say("book %s", m.name(mix))
	case 5:
		m.say("bar %s", m.name(mix))
	case 6:
		m.say("picture %s", m.name(mix))
	default:
		m.say("page %s %d", m.name(mix), mix.Below(6))
	}
}

// turns turns an instrument, most often as a day goes; most is done while it is opened.
func (m *model) turns(mix *Mixer) {
	name := m.name(mix)
	phase := m.x.Phase(m.number(name))
	if phase == api.Opened && mix.Below(4) > 0 {
		return
	}
	next := Pick(mix, map[int][]int{0: {1}, 1: {2}, 2: {4, 3}, 3: {2, 4}, 4: {0}}[phase]...)
	if mix.Below(8) == 0 {
		next = mix.Below(6)
	}
	m.say("turn %s %d", name, next)
}

// endsDay ends the day of all instruments, and settles it.
func (m *model) endsDay(mix *Mixer) {
	for _, name := range m.names {
		for m.x.Phase(m.number(name)) != api.Closed {
			m.say("turn %s %d", name, map[int]int{1: 2, 2: 4, 3: 4, 4: 0}[m.x.Phase(m.number(name))])
		}
	}
	m.say("settle")
	if mix.Below(2) == 0 {
		m.say("settle")
	}
	for _, name := range m.names {
		m.say("turn %s 1", name)
		m.say("turn %s 2", name)
	}
}

// Whatever is asked, in whatever order: the trace is the model's.
func TestP28_2Model(t *testing.T) {
	var mix Mixer = 282
	words := map[string]int{}
	handed, lost := 0, 0
	for range 60 {
		m := play(&mix, 400)
		sameText(t, trace(t, m.script.String()), m.trace.String())
		for w, n := range m.words {
			words[w] += n
		}
		for _, e := range m.ends {
			handed += len(e.handed)
			lost += len(e.sent) - len(e.handed)
		}
	}
	for word := range kindsOf(t) {
		Same(t, "whether "+word+" is done", words[word] > 20, true)
	}
	Same(t, "whether letters are handed on", handed > 500, true)
	Same(t, "whether letters are lost", lost > 100, true)
}

// cut is the beginning of a trace that tells of lines up to a number.
func cut(trace string, line int) string {
	at := 0
	for _, l := range strings.SplitAfter(trace, "\n") {
		n := 0
		fmt.Sscan(l, &n)
		if n > line {
			break
		}
		at += len(l)
	}
	return trace[:at]
}

func TestP28_4Beginnings(t *testing.T) {
	var mix Mixer = 284
	for range 8 {
		m := play(&mix, 200)
		script := m.script.String()
		whole := trace(t, script)
		lines := strings.SplitAfter(script, "\n")
		for n := 0; n < len(lines); n += 1 + mix.Below(12) {
			begins := strings.Join(lines[:n], "")
			sameText(t, trace(t, begins), cut(whole, n))
			sameText(t, trace(t, strings.TrimSuffix(begins, "\n")), cut(whole, n))
		}
	}
}

func TestP28_5SideBySide(t *testing.T) {
	var mix Mixer = 285
	for n := 8; n >= 0; n-- {
		var texts, want []string
		for i := range n {
			m := play(&mix, 150)
			script := m.script.String()
			if i == 5 {
				script = texts[0] // the same one twice
			}
			if i == 6 {
				script += "what"
			}
			told, _, _, _ := market.Run(script)
			texts, want = append(texts, script), append(want, told)
		}
		for range 3 {
			got, why := market.Many(texts)
			Same(t, "Many", why, api.OK)
			Same(t, "traces", len(got), n)
			for i := range got {
				sameText(t, got[i], want[i])
			}
		}
	}
}

// without is a script whose lines with these words are no commands, and which of them they are.
func without(script string, words ...string) (string, map[int]bool) {
	lines, gone := strings.Split(script, "\n"), map[int]bool{}
	for i, l := range lines {
		if f := strings.Fields(l); len(f) > 0 && slices.Contains(words, f[0]) {
			lines[i] = []string{"#" + l, "", " # " + f[0]}[i%3]
			gone[i+1] = true
		}
	}
	return strings.Join(lines, "\n"), gone
}

// less is a trace without what it tells of some lines.
func less(trace string, gone map[int]bool) string {
	var b strings.Builder
	for _, l := range strings.SplitAfter(trace, "\n") {
		n := 0
		fmt.Sscan(l, &n)
		if !gone[n] {
			b.WriteString(l)
		}
	}
	return b.String()
}

func TestP28_6LookedAt(t *testing.T) {
	var mix Mixer = 286
	all := []string{"cash", "margin", "position", "risk", "book", "bar", "picture", "page"}
	for range 20 {
		m := play(&mix, 300)
		script := m.script.String()
		whole := trace(t, script)
		for _, words := range [][]string{all, {Pick(&mix, all...)}} {
			other, gone := without(script, words...)
			sameText(t, trace(t, other), less(whole, gone))
		}
	}
}

func TestP28_7Engines(t *testing.T) {
	var mix Mixer = 287
	for range 20 {
		m := play(&mix, 300)
		script := m.script.String()
		whole := trace(t, script)
		other, gone := without(script, "engine")
		Same(t, "whether there are engines", len(gone) > 0, true)
		sameText(t, trace(t, other), less(whole, gone))
		for _, kind := range Kinds() {
			lines := strings.Split(script, "\n")
			for i, l := range lines {
				if f := strings.Fields(l); len(f) > 0 && f[0] == "list" {
					f[4] = fmt.Sprint(kind)
					lines[i] = strings.Join(f, " ")
				}
			}
			sameText(t, trace(t, strings.Join(lines, "\n")), whole)
		}
	}
}

// asked is what the last lines of a trace tell, one each, of commands that are said behind a script.
func asked(t *testing.T, script string, says ...string) []string {
	t.Helper()
	lines := strings.Split(strings.TrimSuffix(trace(t, script+strings.Join(says, "\n")), "\n"), "\n")
	return lines[len(lines)-len(says):]
}

func TestP28_8Money(t *testing.T) {
	var mix Mixer = 288
	fees := false
	for range 30 {
		m := play(&mix, 396)
		sum := 0
		for i, l := range asked(t, m.script.String(), "cash 7", "cash 8", "cash 9") {
			f := strings.Fields(l)
			sum += cents(t, f[2])
			if i == 0 {
				sum += cents(t, f[3])
				fees = fees || f[3] != "0.00"
			}
		}
		Same(t, "all cash and fees", sum, int(m.brings))
	}
	Same(t, "whether there are fees", fees, true)
}

func cents(t *testing.T, amount string) int {
	t.Helper()
	n, err := strconv.Atoi(strings.Replace(amount, ".", "", 1))
	if err != nil {
		t.Fatal(err)
	}
	return n
}

// told is what a trace tells that begins so, without its line's number.
func told(trace, begins string) []string {
	var l []string
	for _, line := range strings.Split(trace, "\n") {
		if _, what, _ := strings.Cut(line, " "); strings.HasPrefix(what, begins) {
			l = append(l, what)
		}
	}
	return l
}

// What a client hands on is a beginning of what the house sent it.
func TestP28_9Letters(t *testing.T) {
	var mix Mixer = 289
	most := 0
	for range 60 {
		m := play(&mix, 396)
		for _, member := range []int{7, 8, 9} {
			e := m.ends[uint32(member)]
			if e == nil {
				continue
			}
			got := m.handedOn(trace(t, m.script.String()), member)
			m.say("drop %d", member) // what waits was sent, too
			if len(got) > len(e.sent) {
				t.Fatalf("more letters than were sent: %d, not %d", len(got), len(e.sent))
			}
			SameList(t, "letters", got, e.sent[:len(got)])
			most = max(most, len(got))
		}
	}
	Same(t, "whether there are letters", most > 20, true)
}

// handedOn is the letters that a trace tells of a member's client.
func (m *model) handedOn(trace string, member int) []string {
	mine := map[int]bool{}
	for i, l := range strings.Split(m.script.String(), "\n") {
		if strings.Join(strings.Fields(l), " ") != fmt.Sprint("fetch ", member) {
			mine[i+1] = true
		}
	}
	return told(less(trace, mine), "letter ")
}

// Where nothing is lost any more, all letters come in the end: those that were lost are asked for and sent again.
func TestP28_9InTheEnd(t *testing.T) {
	var mix Mixer = 2891
	late := 0
	for range 30 {
		m := play(&mix, 120)
		e := m.ends[7]
		if e == nil {
			continue
		}
		m.say("fetch 7")
		m.say("logon 7")
		from := max(0, len(e.lines)-5)
		before := len(e.handed)
		for range 42 {
			m.say("ticks 7")
			m.say("tick")
			for k := from; k < len(e.lines); k++ {
				m.say("again 7 %d", k+1)
			}
			from = len(e.lines)
			m.say("fetch 7")
		}
		late += len(e.handed) - before
		sameText(t, trace(t, m.script.String()), m.trace.String())
		SameList(t, "letters", e.handed, e.sent)
		SameList(t, "letters", m.handedOn(m.trace.String(), 7), e.sent)
	}
	Same(t, "whether letters come late", late > 50, true)
}
