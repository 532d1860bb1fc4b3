package session_test

import (
	"fmt"
	"maps"
	"math"
	"regexp"
	"slices"
	"strconv"
	"strings"
	"testing"

	"bourse/api"
	. "bourse/sample"
	"bourse/session"
	"bourse/text"
)

// The tests hold an end against a model that keeps its letters in a map and goes from number to number; lines are made by fmt and read by regexp, which no code of the package uses.

const top = math.MaxUint64

// bars makes the byte 1 of each bar, as in the document's examples.
func bars(s string) string { return strings.ReplaceAll(s, "|", "\x01") }

// closed is a line of a body.
func closed(body string) string {
	s := fmt.Sprintf("8=BRS.1\x019=%d\x01%s", len(body), body)
	sum := 0
	for _, c := range []byte(s) {
		sum += int(c)
	}
	return s + fmt.Sprintf("10=%03d\x01", sum%256)
}

// from is a line of ANN or BRS to the other one; behind its head stand the fields of rest, with bars.
func from(own, kind string, n uint64, rest string) string {
	peer := map[string]string{"ANN": "BRS", "BRS": "ANN"}[own]
	return closed(bars(fmt.Sprintf("35=%s|34=%d|49=%s|56=%s|%s", kind, n, own, peer, rest)))
}

func decimal(n uint64) string { return strconv.FormatUint(n, 10) }

func letter(kind string, l ...api.Tag) api.Letter { return api.Letter{Kind: kind, Tags: l} }

// numbered is a letter of the kind D with its number in the field 11.
func numbered(n int) api.Letter { return letter("D", api.Tag{Tag: 11, Value: strconv.Itoa(n)}) }

// fields is what is written of a letter's fields.
func fields(l []api.Tag) string {
	s := ""
	for _, f := range l {
		s += fmt.Sprintf("%d=%s\x01", f.Tag, f.Value)
	}
	return s
}

func written(l []api.Letter) string {
	s := ""
	for _, x := range l {
		s += "letter " + x.Kind + " " + fields(x.Tags) + "\n"
	}
	return s
}

func lines(l [][]byte) string {
	s := ""
	for _, b := range l {
		s += string(b) + "\n"
	}
	return s
}

func listed(l ...string) string {
	s := ""
	for _, x := range l {
		s += x + "\n"
	}
	return s
}

func link(k api.Link) string { return fmt.Sprintf("%+v", k) }

// opens is an end that keeps that.
func opens(t *testing.T, k api.Link) *session.Session {
	t.Helper()
	s, why := session.Open(k)
	Same(t, "Open", why, api.OK)
	Same(t, "State", link(s.State()), link(k))
	return s
}

// on is what an end keeps that is On.
func on(first bool, in, out uint64) api.Link {
	if first {
		return api.Link{Own: "ANN", Peer: "BRS", First: true, On: true, In: in, Out: out}
	}
	return api.Link{Own: "BRS", Peer: "ANN", On: true, In: in, Out: out}
}

// says holds a call's answer against the lines that are wanted.
func says(t *testing.T, got [][]byte, why api.Errno, want ...string) {
	t.Helper()
	Same(t, "the answer", why, api.OK)
	Same(t, "the lines", lines(got), listed(want...))
}

// takes lets an end take a line, and holds what it hands on and what goes out against what is wanted.
func takes(t *testing.T, s *session.Session, line string, l []api.Letter, want ...string) {
	t.Helper()
	got, out, why := s.Take([]byte(line))
	says(t, out, why, want...)
	Same(t, "the letters", written(got), written(l))
}

// keeps holds what an end keeps against what is wanted.
func keeps(t *testing.T, s *session.Session, want api.Link) {
	t.Helper()
	Same(t, "State", link(s.State()), link(want))
}

// refuses lets an end take a line that it must refuse, with nothing changed.
func refuses(t *testing.T, s *session.Session, line string, want api.Errno) {
	t.Helper()
	before := link(s.State())
	l, out, why := s.Take([]byte(line))
	if why != want || len(l) != 0 || len(out) != 0 {
		t.Fatalf("Take of %q: got %v, %q, %v, wanted %v", line, l, out, why, want)
	}
	Same(t, "behind a refusal", link(s.State()), before)
}

// model is an end by the document's words: as a link, but its letters lie in a map.
type model struct {
	api.Link
	letters map[uint64]api.Letter
}

func modelOf(k api.Link) *model {
	m := &model{k, map[uint64]api.Letter{}}
	for _, x := range k.Sent {
		m.letters[x.Number] = x.Letter
	}
	return m
}

// state is what the model keeps, as a link.
func (m *model) state() api.Link {
	k := m.Link
	k.Sent = nil
	for _, n := range slices.Sorted(maps.Keys(m.letters)) {
		k.Sent = append(k.Sent, api.Sent{Number: n, Letter: m.letters[n]})
	}
	return k
}

var isName = regexp.MustCompile(`\A[A-Z]{1,16}\z`)

// canBe is what 23.1 asks of a link.
func canBe(k api.Link) bool {
	ok := isName.MatchString(k.Own) && isName.MatchString(k.Peer) && len(k.Sent) <= 4096 && k.Out <= 1<<62
	ok = ok && k.Quiet >= 0 && k.Quiet <= 1<<31 && k.Calm >= 0 && k.Calm <= 1<<31 && !(k.On && k.Done)
	ahead := uint64(0)
	for _, x := range k.Sent {
		ok = ok && x.Number > ahead && x.Number <= k.Out && letterWhy(k, x.Letter) == api.OK
		ahead = x.Number
	}
	return ok
}

// letterWhy is why a letter can't be.
func letterWhy(k api.Link, l api.Letter) api.Errno {
	head := []api.Tag{{Tag: 34, Value: "18446744073709551615"}, {Tag: 49, Value: k.Own}, {Tag: 56, Value: k.Peer}, {Tag: 43, Value: "Y"}}
	_, why := text.Encode(l.Kind, append(head, l.Tags...))
	if why != api.ErrForm && l.Kind != "" && strings.Contains("A 0 2 4 5", l.Kind) {
		return api.ErrArg
	}
	return why
}

// line is one of the model's.
func (m *model) line(kind string, n uint64, rest string) string {
	return closed(fmt.Sprintf("35=%s\x0134=%d\x0149=%s\x0156=%s\x01%s", kind, n, m.Own, m.Peer, rest))
}

func (m *model) send(kind, rest string) string {
	m.Out, m.Quiet = m.Out+1, 0
	return m.line(kind, m.Out, rest)
}

func (m *model) asks() string {
	m.Asked = m.In + 1
	return m.send("2", fmt.Sprintf("7=%d\x01", m.In+1))
}

func (m *model) begin() (string, api.Errno) {
	if !m.First || m.On {
		return "", api.ErrLogon
	}
	m.On, m.Done, m.Calm = true, false, 0
	return listed(m.send("A", "")), api.OK
}

func (m *model) end() (string, api.Errno) {
	if !m.On {
		return "", api.ErrOff
	}
	m.On, m.Done = false, true
	return listed(m.send("5", "")), api.OK
}

func (m *model) sends(l api.Letter) (string, api.Errno) {
	why := letterWhy(m.Link, l)
	switch {
	case !m.On:
		return "", api.ErrOff
	case why != api.OK:
		return "", why
	case len(m.letters) == 4096:
		return "", api.ErrSent
	}
	s := m.send(l.Kind, fields(l.Tags))
	m.letters[m.Out] = l
	return listed(s), api.OK
}

func (m *model) tick() string {
	s := ""
	if !m.On {
		return s
	}
	m.Quiet, m.Calm = min(m.Quiet+1, 1<<31), min(m.Calm+1, 1<<31)
	if m.Quiet >= 10 {
		s += listed(m.send("0", ""))
	}
	if m.Calm >= 20 && m.Calm%20 == 0 {
		s += listed(m.asks())
	}
	return s
}

var (
	whole  = regexp.MustCompile(`\A8=BRS\.1\x019=\d+\x0135=(\w+)\x0134=(\d+)\x0149=([A-Z]+)\x0156=([A-Z]+)\x01(43=Y\x01)?((?:\d+=[^\x01]+\x01)*)10=\d{3}\x01\z`)
	headed = regexp.MustCompile(`(\A|\x01)(34|49|56|43)=`)
	single = regexp.MustCompile(`\A(7|36)=([^\x01]*)\x01\z`)
)

// number is a number's text read; 0 is none.
func number(s string) uint64 {
	n, err := strconv.ParseUint(s, 10, 64)
	if err != nil || strconv.FormatUint(n, 10) != s {
		return 0
	}
	return n
}

// read is a line's kind, number, fields, and the value of its one field, or why it can't be taken.
func (m *model) read(b []byte) (kind string, n uint64, rest string, value uint64, why api.Errno) {
	if _, _, _, why := text.Decode(b); why != api.OK {
		return "", 0, "", 0, why
	}
	x := whole.FindStringSubmatch(string(b))
	if x == nil || number(x[2]) == 0 || x[3] != m.Peer || x[4] != m.Own || headed.MatchString(x[6]) {
		return "", 0, "", 0, api.ErrLetter
	}
	kind, n, rest = x[1], number(x[2]), x[6]
	fair := true
	one := single.FindStringSubmatch(rest)
	switch kind {
	case "A", "0", "5":
		fair = rest == ""
	case "2":
		fair = one != nil && one[1] == "7" && number(one[2]) > 0
	case "4":
		fair = one != nil && one[1] == "36" && number(one[2]) > n
	}
	if !fair {
		return "", 0, "", 0, api.ErrLetter
	}
	if one != nil {
		value = number(one[2])
	}
	return kind, n, rest, value, api.OK
}

// take is what is handed on, and the lines that go out.
func (m *model) take(b []byte) (string, string, api.Errno) {
	kind, n, rest, value, why := m.read(b)
	if why != api.OK {
		return "", "", why
	}
	told, out := "", ""
	if n > m.In && n-m.In > 1 && m.Asked != m.In+1 {
		out = listed(m.asks())
	}
	if n > m.In && n-m.In == 1 {
		m.In, m.Calm, m.Asked = n, 0, 0
		told, out = m.next(kind, rest, value)
	}
	if kind == "2" {
		out += m.again(value)
	}
	return told, out, api.OK
}

func (m *model) next(kind, rest string, value uint64) (told, out string) {
	was := m.On
	switch kind {
	case "5":
		m.On, m.Done = false, true
		if was {
			out = listed(m.send("5", ""))
		}
		return "", out
	case "A":
		if !m.First && !was {
			m.On, m.Done = true, false
			return "", listed(m.send("A", ""))
		}
	case "4":
		m.In = value - 1
	case "0", "2":
	default:
		told = "letter " + kind + " " + rest + "\n"
	}
	m.On = was || !m.Done
	return told, out
}

func (m *model) again(n uint64) string {
	s := ""
	for n <= m.Out {
		if l, ok := m.letters[n]; ok {
			s += listed(m.line(l.Kind, n, "43=Y\x01"+fields(l.Tags)))
			n++
			continue
		}
		first := n
		for n <= m.Out && m.letters[n].Kind == "" {
			n++
		}
		s += listed(m.line("4", first, fmt.Sprintf("43=Y\x0136=%d\x01", n)))
	}
	if s != "" {
		m.Quiet = 0
	}
	return s
}
