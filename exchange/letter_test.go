package exchange_test

import (
	"bytes"
	"fmt"
	"math"
	"strings"
	"testing"

	"bourse/api"
	"bourse/exchange"
	. "bourse/sample"
	"bourse/session"
	"bourse/text"
)

// client is a member's end of its session.
type client struct {
	*session.Session
	x      *exchange.Exchange
	member uint32
}

// dialled is the client of a member, which is logged on.
func dialled(t *testing.T, x *exchange.Exchange, member uint32, name string) *client {
	t.Helper()
	Same(t, "Dial", x.Dial(member, name), api.OK)
	s, why := session.New(name, "BRS", true)
	Same(t, "New", why, api.OK)
	c := &client{s, x, member}
	lines, why := c.Begin()
	Same(t, "Begin", why, api.OK)
	c.passes(t, lines)
	SameList(t, "what a log-on brings", c.hears(t), nil)
	return c
}

// passes lets the house take lines.
func (c *client) passes(t *testing.T, lines [][]byte) {
	t.Helper()
	for _, b := range lines {
		Same(t, "Take", c.x.Take(c.member, b), api.OK)
	}
}

// hears is the letters among what waits, as texts.
func (c *client) hears(t *testing.T) []string {
	t.Helper()
	var told []string
	for _, b := range c.x.Lines(c.member) {
		letters, lines, why := c.Take(b)
		Same(t, "Take", why, api.OK)
		for _, l := range letters {
			told = append(told, written(l))
		}
		c.passes(t, lines)
	}
	return told
}

// mails sends a letter, and is what it hears then.
func (c *client) mails(t *testing.T, kind string, fields string) []string {
	t.Helper()
	lines, why := c.Send(read(kind, fields))
	Same(t, "Send", why, api.OK)
	c.passes(t, lines)
	return c.hears(t)
}

// written is a letter as a text: its kind, and fields with bars between.
func written(l api.Letter) string {
	s := l.Kind
	for _, f := range l.Tags {
		s += fmt.Sprintf("|%d=%s", f.Tag, f.Value)
	}
	return s
}

// read is the letter of such a text.
func read(kind, fields string) api.Letter {
	l := api.Letter{Kind: kind}
	for _, f := range strings.Split(fields, "|") {
		if f == "" {
			continue
		}
		tag, value, _ := strings.Cut(f, "=")
		n := 0
		fmt.Sscan(tag, &n)
		l.Tags = append(l.Tags, api.Tag{Tag: n, Value: value})
	}
	return l
}

const noRequest = "3|58=41"

func TestP26_10Dial(t *testing.T) {
	x := closed(t, 7, 8)
	for _, d := range []struct {
		member uint32
		name   string
		why    api.Errno
	}{
		{0, "ANN", api.ErrNobody}, {9, "", api.ErrNobody}, {math.MaxUint32, "ANN", api.ErrNobody},
		{7, "", api.ErrArg}, {7, "ann", api.ErrArg}, {7, "AN N", api.ErrArg}, {7, "ABCDEFGHIJKLMNOPQ", api.ErrArg}, {7, "ANN1", api.ErrArg},
		{7, "ABCDEFGHIJKLMNOP", api.OK}, {7, "", api.ErrThere}, {7, "ABCDEFGHIJKLMNOP", api.ErrThere}, {7, "ANN", api.ErrThere}, {8, "ABCDEFGHIJKLMNOP", api.OK},
	} {
		Same(t, "Dial", x.Dial(d.member, d.name), d.why)
	}
	for _, m := range []uint32{0, 7, 8, 9, math.MaxUint32} {
		Same(t, "lines that wait", len(x.Lines(m)), 0)
	}
}

// The house's end is the one of the name BRS that does not log on itself.
func TestP26_10Session(t *testing.T) {
	x := closed(t, 7)
	Same(t, "Dial", x.Dial(7, "ANN"), api.OK)
	c, _ := session.New("ANN", "BRS", true)
	other, _ := session.New("BOB", "BRS", true)
	to, _ := session.New("ANN", "BRX", true)
	for _, s := range []*session.Session{other, to} {
		lines, _ := s.Begin()
		Same(t, "Take", x.Take(7, lines[0]), api.ErrLetter)
	}
	x.Tick()
	Same(t, "lines that wait", len(x.Lines(7)), 0)
	lines, _ := c.Begin()
	Same(t, "Take", x.Take(7, lines[0]), api.OK)
	house, _ := session.New("BRS", "ANN", false)
	_, want, _ := house.Take(lines[0])
	got := x.Lines(7)
	Same(t, "lines that wait", len(got), 1)
	SameBytes(t, "the log-on", got[0], want[0])
	Same(t, "lines that wait", len(x.Lines(7)), 0)
}

func TestP26_11Errors(t *testing.T) {
	x := opened(t, 7, 8)
	Same(t, "Dial", x.Dial(8, "BOB"), api.OK)
	b, _ := text.Encode("A", []api.Tag{{Tag: 34, Value: "1"}, {Tag: 49, Value: "BOB"}, {Tag: 56, Value: "BRS"}})
	wrong, _ := text.Encode("A", []api.Tag{{Tag: 34, Value: "1"}, {Tag: 49, Value: "ANN"}, {Tag: 56, Value: "BRS"}})
	spoilt := bytes.Clone(b)
	spoilt[len(spoilt)-2] ^= 1
	before := asked(x)
	for _, y := range []struct {
		member uint32
		b      []byte
		why    api.Errno
	}{
		{0, b, api.ErrNobody}, {9, nil, api.ErrNobody}, {7, nil, api.ErrDial}, {7, b, api.ErrDial}, {7, spoilt, api.ErrDial},
		{8, nil, api.ErrShort}, {8, b[:20], api.ErrShort}, {8, spoilt, api.ErrTrail}, {8, []byte("x"), api.ErrForm}, {8, append(bytes.Clone(b), 'x'), api.ErrLetter}, {8, wrong, api.ErrLetter},
	} {
		Same(t, "Take", x.Take(y.member, y.b), y.why)
		Same(t, "lines that wait", len(x.Lines(y.member)), 0)
	}
	Same(t, "what can be asked", asked(x), before)
	Same(t, "Seq", x.Seq(), 2)
	Same(t, "Take", x.Take(8, b), api.OK)
	Same(t, "lines that wait", len(x.Lines(8)), 1)
	Same(t, "Take", x.Take(8, b), api.OK) // it came already
	Same(t, "lines that wait", len(x.Lines(8)), 0)
}

func TestP26_11Examples(t *testing.T) {
	x := opened(t, 7)
	c := dialled(t, x, 7, "ANN")
	SameList(t, "what is told", c.mails(t, "D", "55=ABC|59=1|11=2|1=7|54=1|40=1|44=99|38=1|210=0"), []string{"8|55=ABC|17=3|150=1|11=2|1=7|54=1|40=1|44=99|38=1|210=0"})
	keeps(t, x.Book(1), api.Book{Config: usual().Config, Buys: []api.Resting{{ID: 1, Member: 7, Type: api.Limit, Price: 99, Visible: 1}}, High: 1, Seq: 3})
	SameList(t, "what is told", c.mails(t, "D", "55=XYX|59=1|11=2|1=7|54=1|40=1|44=99|38=1|210=0"), []string{noRequest})
	Same(t, "Seq", x.Seq(), 3)
}

// What is no request in its one form is answered with a letter of the kind 3, and does nothing.
func TestP26_11NoRequest(t *testing.T) {
	x := opened(t, 7, 8)
	c := dialled(t, x, 7, "ANN")
	SameList(t, "what is told", c.mails(t, "D", "55=ABC|59=0|11=5|1=7|54=1|40=1|44=99|38=1|210=0"), []string{"8|55=ABC|17=3|150=1|11=5|1=7|54=1|40=1|44=99|38=1|210=0"})
	before, seq := asked(x), x.Seq()
	const rest = "|11=2|1=7|54=1|40=1|44=99|38=1|210=0"
	for _, l := range [][2]string{
		{"D", ""}, {"D", "55=ABC"}, {"D", "55=ABC|59=1"}, {"D", "55=ABC" + rest}, {"D", "59=1|55=ABC" + rest}, {"D", "59=1" + rest}, {"D", rest},
		{"D", "55=abc|59=1" + rest}, {"D", "55=ABCD|59=1" + rest}, {"D", "55=AB|59=1" + rest}, {"D", "55=1|59=1" + rest},
		{"D", "55=ABC|59=2" + rest}, {"D", "55=ABC|59=00" + rest}, {"D", "55=ABC|59=01" + rest}, {"D", "55=ABC|59=-" + rest}, {"D", "55=ABC|60=1" + rest},
		{"D", "55=ABC|59=1|11=2|1=8|54=1|40=1|44=99|38=1|210=0"}, {"D", "55=ABC|59=1|11=2|1=0|54=1|40=1|44=99|38=1|210=0"}, {"D", "55=ABC|59=1|11=2|1=4294967303|54=1|40=1|44=99|38=1|210=0"},
		{"D", "55=ABC|59=1|1=7|11=2|54=1|40=1|44=99|38=1|210=0"}, {"D", "55=ABC|59=1|11=2|1=7|54=1|40=1|44=99|38=1"}, {"D", "55=ABC|59=1" + rest + "|41=0"}, {"D", "55=ABC|59=1|11=02|1=7|54=1|40=1|44=99|38=1|210=0"}, {"D", "55=ABC|59=1|11=2|1=7|54=256|40=1|44=99|38=1|210=0"}, {"D", "55=ABC|59=1|11=2|1=7|54=1|40=1|44=4294967296|38=1|210=0"}, {"D", "55=ABC|59=1|11=2|1=7|54=1|40=1|44=-1|38=1|210=0"},
		{"D", "55=ABC|59=1|41=5"}, {"F", "55=ABC|59=1|41=5"}, {"F", "55=ABC|59=0|41=5"}, {"F", "41=5"}, {"F", "55=ABC"}, {"F", "41=5|55=ABC"}, {"F", "55=ABC|41=x"}, {"F", "55=ABC|41=5|11=6"}, {"F", "55=ABC|41=05"},
		{"G", "55=ABC|11=2|41=5|44=99|38=1|210=0"}, {"G", "55=ABC|41=5|11=2|44=99|38=1"}, {"G", "55=ABC|59=1|41=5|11=2|44=99|38=1|210=0"}, {"G", "55=ABC|41=5|11=2|1=7|44=99|38=1|210=0"}, {"G", "55=ABC" + rest},
		{"F", "55=ABC" + rest}, {"UE", "55=ABC|9001=2"}, {"8", "55=ABC|17=3|150=1|11=5|1=7|54=1|40=1|44=99|38=1|210=0"}, {"3", "58=41"}, {"X", "55=ABC|41=5"}, {"d", "55=ABC|59=1" + rest}, {"DD", "55=ABC|59=1" + rest}, {"X", ""},
	} {
		SameList(t, l[0]+" "+l[1], c.mails(t, l[0], l[1]), []string{noRequest})
		Same(t, "Seq", x.Seq(), seq)
		Same(t, "what can be asked", asked(x), before)
	}
}

func TestP26_11Requests(t *testing.T) {
	x := opened(t, 7, 8)
	turns(t, x, 2, api.PreOpen)
	c := dialled(t, x, 7, "ANN")
	for _, y := range []struct{ kind, fields, want string }{
		{"D", "55=ABC|59=0|11=1|1=7|54=1|40=1|44=99|38=12|210=4", "8|55=ABC|17=4|150=1|11=1|1=7|54=1|40=1|44=99|38=12|210=4"},
		{"D", "55=ABC|59=1|11=2|1=7|54=2|40=5|44=101|38=3|210=0", "8|55=ABC|17=5|150=1|11=2|1=7|54=2|40=5|44=101|38=3|210=0"},
		{"D", "55=XYZ|59=1|11=1|1=7|54=2|40=2|44=0|38=4294967295|210=0", "8|55=XYZ|17=6|150=1|11=1|1=7|54=2|40=2|44=0|38=4294967295|210=0"},
		{"D", "55=ABC|59=1|11=2|1=7|54=2|40=5|44=101|38=3|210=0", "8|55=ABC|17=7|150=2|11=2|41=0|103=262"},
		{"D", "55=ABC|59=1|11=0|1=7|54=2|40=5|44=101|38=3|210=0", "8|55=ABC|17=8|150=2|11=0|41=0|103=262"},
		{"D", "55=ABC|59=1|11=9|1=7|54=255|40=255|44=4294967295|38=5|210=18446744073709551615", "8|55=ABC|17=9|150=2|11=9|41=0|103=92"},
		{"F", "55=ABC|41=9", "8|55=ABC|17=10|150=2|11=0|41=9|103=91"},
		{"F", "55=XYZ|41=1", "8|55=XYZ|17=11|150=4|11=1|38=4294967295|378=1"},
		{"G", "55=ABC|41=7|11=9|44=100|38=2|210=0", "8|55=ABC|17=12|150=2|11=9|41=7|103=91"},
		{"G", "55=ABC|41=2|11=18446744073709551615|44=105|38=2|210=0", "8|55=ABC|17=13|150=4|11=2|38=3|378=2"},
	} {
		told := c.mails(t, y.kind, y.fields)
		Same(t, "what is told first", told[0], y.want)
		if len(told) > 1 {
			SameList(t, "what is told then", told[1:], []string{"8|55=ABC|17=14|150=1|11=18446744073709551615|1=7|54=2|40=5|44=105|38=2|210=0"})
		}
	}
	// Only the first one was for the day.
	turns(t, x, 1, api.PreClose)
	l, _ := x.Turn(1, api.Closed)
	tells(t, x, 1, l, hears(Ended(1, 12, api.ByDay), own{7, 1}), hears(begins(api.Closed, 100), everybody))
	SameList(t, "what is told", c.hears(t), []string{"8|55=ABC|17=16|150=4|11=1|38=12|378=6"})
	Same(t, "Sells", len(x.Book(1).Sells), 1)
}

// Each of both members of a trade is told its own side, whoever asked for it; who was not dialled is told nothing.
func TestP26_12Trades(t *testing.T) {
	x := opened(t, 7, 8, 9)
	a, b := dialled(t, x, 7, "ANN"), dialled(t, x, 8, "BOB")
	taken(t, x, peaked(sells(7, 5, 100, 9), 4), sells(9, 1, 101, 1))
	SameList(t, "what is told", a.hears(t), []string{"8|55=ABC|17=3|150=1|11=5|1=7|54=2|40=1|44=100|38=9|210=4"})
	taken(t, x, buys(8, 6, 101, 6))
	SameList(t, "what is told", a.hears(t), []string{
		"8|55=ABC|17=7|150=3|11=5|37=0|54=2|44=100|38=4", "8|55=ABC|17=8|150=5|11=5|44=100|38=4", "8|55=ABC|17=10|150=3|11=5|37=0|54=2|44=100|38=2",
	})
	SameList(t, "what is told", b.hears(t), []string{
		"8|55=ABC|17=5|150=1|11=6|1=8|54=1|40=1|44=101|38=6|210=0", "8|55=ABC|17=6|150=3|11=6|37=0|54=1|44=100|38=4", "8|55=ABC|17=9|150=3|11=6|37=0|54=1|44=100|38=2",
	})
	// With itself it is told both.
	taken(t, x, buys(7, 6, 100, 1))
	SameList(t, "what is told", a.hears(t), []string{
		"8|55=ABC|17=11|150=1|11=6|1=7|54=1|40=1|44=100|38=1|210=0", "8|55=ABC|17=12|150=3|11=6|37=0|54=1|44=100|38=1", "8|55=ABC|17=13|150=3|11=5|37=0|54=2|44=100|38=1",
	})
	// By letter, too; and the seller may be the one that comes.
	taken(t, x, buys(8, 7, 99, 1))
	Same(t, "letters", len(b.hears(t)), 1)
	SameList(t, "what is told", a.mails(t, "D", "55=ABC|59=1|11=7|1=7|54=2|40=3|44=99|38=2|210=0"), []string{
		"8|55=ABC|17=15|150=1|11=7|1=7|54=2|40=3|44=99|38=2|210=0", "8|55=ABC|17=16|150=3|11=7|37=0|54=2|44=99|38=1", "8|55=ABC|17=18|150=4|11=7|38=1|378=3",
	})
	SameList(t, "what is told", b.hears(t), []string{"8|55=ABC|17=17|150=3|11=7|37=0|54=1|44=99|38=1"})
	Same(t, "lines of one that was not dialled", len(x.Lines(9)), 0)
}

// What is neither of the kinds 1 to 5, or of no instrument, is told by reports alone.
func TestP26_12NoLetters(t *testing.T) {
	x := closed(t, 7, 8)
	a := dialled(t, x, 7, "ANN")
	turns(t, x, 1, api.PreOpen, api.Opened)
	SameList(t, "what is told of turns", a.hears(t), nil)
	taken(t, x, stops(7, 1, api.Buy, 140, 0, 2), stops(7, 2, api.Buy, 100, 101, 2), asks(7, api.WithdrawStop, 0, 1))
	SameList(t, "what is told of stop orders", a.hears(t), nil)
	Same(t, "reports", len(x.Send(in(9, buys(7, 3, 100, 1)))), 1)
	Same(t, "reports", len(x.Send(in(0, buys(7, 3, 100, 1)))), 1)
	SameList(t, "what is told of no instrument", a.hears(t), nil)
	taken(t, x, sells(8, 1, 100, 3), buys(8, 2, 100, 1))
	SameList(t, "what is told of an order that was let go", a.hears(t), []string{
		"8|55=ABC|17=13|150=1|11=2|1=7|54=1|40=1|44=101|38=2|210=0", "8|55=ABC|17=14|150=3|11=2|37=0|54=1|44=100|38=2",
	})
	Same(t, "reports", len(x.Send(asks(7, 9, 3, 4))), 1)
	Same(t, "reports", len(x.Send(asks(7, api.WithdrawStop, 3, 4))), 1)
	SameList(t, "what is told of refusals", a.hears(t), []string{"8|55=ABC|17=16|150=2|11=3|41=4|103=90", "8|55=ABC|17=17|150=2|11=3|41=4|103=130"})
}

func TestP26_12KillAndSettle(t *testing.T) {
	x := closed(t, 7, 8)
	a, b := dialled(t, x, 7, "ANN"), dialled(t, x, 8, "BOB")
	turns(t, x, 2, api.PreOpen)
	taken(t, x, in(2, buys(7, 1, 100, 5)), in(2, sells(8, 1, 100, 9)))
	turns(t, x, 2, api.Opened)
	a.hears(t)
	SameList(t, "what is told of an auction", b.hears(t), []string{"8|55=XYZ|17=3|150=1|11=1|1=8|54=2|40=1|44=100|38=9|210=0", "8|55=XYZ|17=6|150=3|11=1|37=0|54=2|44=100|38=5"})
	taken(t, x, in(2, buys(7, 2, 90, 5)))
	a.hears(t)
	x.Kill(7)
	SameList(t, "what is told of a kill", a.hears(t), []string{"8|55=XYZ|17=9|150=4|11=2|38=5|378=1"})
	turns(t, x, 2, api.PreClose, api.Closed)
	x.Pay(7, 1000)
	settled(t, x)
	_, falls, _ := settled(t, x)
	Same(t, "falls", len(falls), 1)
	SameList(t, "what is told of a fall", b.hears(t), []string{"8|55=XYZ|17=12|150=4|11=1|38=4|378=1"})
	SameList(t, "what is told to the other one", a.hears(t), nil)
	SameList(t, "what is told to one that is out", b.mails(t, "F", "55=ABC|41=1"), []string{"8|55=ABC|17=13|150=2|11=0|41=1|103=221"})
}

// What a session refuses is lost: it is not sent later.
func TestP26_12Lost(t *testing.T) {
	x := opened(t, 7)
	Same(t, "Dial", x.Dial(7, "ANN"), api.OK)
	taken(t, x, buys(7, 1, 99, 1))
	Same(t, "lines", len(x.Lines(7)), 0)
	s, _ := session.New("ANN", "BRS", true)
	c := &client{s, x, 7}
	lines, _ := c.Begin()
	c.passes(t, lines)
	taken(t, x, buys(7, 2, 99, 2))
	SameList(t, "what is told", c.hears(t), []string{"8|55=ABC|17=4|150=1|11=2|1=7|54=1|40=1|44=99|38=2|210=0"})
	lines, _ = c.End()
	c.passes(t, lines)
	taken(t, x, buys(7, 3, 99, 3))
	late, _ := text.Encode("F", []api.Tag{{Tag: 34, Value: "3"}, {Tag: 49, Value: "ANN"}, {Tag: 56, Value: "BRS"}, {Tag: 55, Value: "ABC"}, {Tag: 41, Value: "3"}})
	Same(t, "Take", x.Take(7, late), api.OK) // handed on, though it is off
	Same(t, "Buys", len(x.Book(1).Buys), 2)
	odd, _ := text.Encode("X", []api.Tag{{Tag: 34, Value: "4"}, {Tag: 49, Value: "ANN"}, {Tag: 56, Value: "BRS"}})
	Same(t, "Take", x.Take(7, odd), api.OK)
	got := x.Lines(7)
	Same(t, "lines", len(got), 1)
	kind, _, _, _ := text.Decode(got[0])
	Same(t, "the log-off", kind, "5")
}

// A session keeps so many letters, and no more: what comes then is lost, and is told by reports all the same.
func TestP26_12NoRoom(t *testing.T) {
	x := opened(t, 7)
	dialled(t, x, 7, "ANN")
	for range api.MaxSent {
		x.Send(asks(7, 9, 1, 1))
	}
	Same(t, "lines", len(x.Lines(7)), api.MaxSent)
	refuses(t, x, asks(7, 9, 1, 1), api.ErrKind)
	Same(t, "lines", len(x.Lines(7)), 0)
	letter, _ := text.Encode("X", read("X", "34=2|49=ANN|56=BRS").Tags)
	Same(t, "Take", x.Take(7, letter), api.OK)
	Same(t, "lines", len(x.Lines(7)), 0)
}

// Lines wait in their order: the session's own answers ahead of what its letters bring.
func TestP26_12Order(t *testing.T) {
	x := opened(t, 7, 8)
	c := dialled(t, x, 7, "ANN")
	taken(t, x, buys(7, 1, 99, 1))
	lines, _ := c.Send(read("F", "55=ABC|41=1"))
	c.passes(t, lines)
	c.passes(t, lines)
	taken(t, x, buys(7, 2, 99, 1))
	lines, _ = c.Send(read("X", ""))
	c.passes(t, lines)
	x.Kill(7)
	SameList(t, "what is told", c.hears(t), []string{
		"8|55=ABC|17=3|150=1|11=1|1=7|54=1|40=1|44=99|38=1|210=0", "8|55=ABC|17=4|150=4|11=1|38=1|378=1",
		"8|55=ABC|17=5|150=1|11=2|1=7|54=1|40=1|44=99|38=1|210=0", noRequest, "8|55=ABC|17=6|150=4|11=2|38=1|378=1",
	})
	// A first line that comes is a letter: the session is on by it, and so what comes of it is sent.
	Same(t, "Dial", x.Dial(8, "BOB"), api.OK)
	b, _ := text.Encode("D", read("D", "34=1|49=BOB|56=BRS|55=ABC|59=1|11=1|1=8|54=1|40=1|44=99|38=1|210=0").Tags)
	Same(t, "Take", x.Take(8, b), api.OK)
	got := x.Lines(8)
	Same(t, "lines", len(got), 1)
	want, _ := text.Encode("8", read("8", "34=1|49=BRS|56=BOB|55=ABC|17=7|150=1|11=1|1=8|54=1|40=1|44=99|38=1|210=0").Tags)
	SameBytes(t, "the line", got[0], want)
}

// A tick passes in each session: each sends its beat when it is due.
func TestP26_12Tick(t *testing.T) {
	x := opened(t, 7, 8, 9)
	dialled(t, x, 8, "BOB")
	for range 4 {
		x.Tick()
	}
	dialled(t, x, 7, "ANN")
	Same(t, "Dial", x.Dial(9, "CID"), api.OK)
	for n := range 30 {
		x.Tick()
		want := map[uint32]int{}
		if n%10 == 5 {
			want[8]++
		}
		if n%10 == 9 {
			want[7]++
		}
		// In each twenty ticks nothing came: it is asked for what is missing. (And that is a line that was sent.)
		if n == 15 {
			want[8]++
		}
		if n == 19 {
			want[7]++
		}
		for _, m := range []uint32{7, 8, 9} {
			Same(t, fmt.Sprint("lines of ", m, " behind ", n), len(x.Lines(m)), want[m])
		}
	}
}

// Lines are given out once; what was given out, and what was handed in, is nobody else's.
func TestP26_10Memory(t *testing.T) {
	x := opened(t, 7)
	c := dialled(t, x, 7, "ANN")
	for n := range 5 {
		lines, _ := c.Send(read("D", fmt.Sprintf("55=ABC|59=1|11=%d|1=7|54=1|40=1|44=99|38=1|210=0", n+1)))
		b := bytes.Clone(lines[0])
		c.passes(t, lines)
		SameBytes(t, "what was handed in", lines[0], b)
		Spoil(lines[0], 'x')
	}
	lines := x.Lines(7)
	Same(t, "lines", len(lines), 5)
	kept := bytes.Join(lines[1:], nil)
	Spoil(lines[0], 'x')
	SameBytes(t, "the other ones", bytes.Join(lines[1:], nil), kept)
	Spoil(lines, []byte("x"))
	taken(t, x, buys(7, 9, 99, 1))
	more := x.Lines(7)
	Same(t, "lines", len(more), 1)
	Same(t, "lines", len(x.Lines(7)), 0)
	kind, _, _, why := text.Decode(more[0])
	Same(t, "Decode", why, api.OK)
	Same(t, "kind", kind, "8")
	Spoil(more[0], 'x')
	// All are sent again as they were.
	ask, _ := text.Encode("2", read("2", "34=7|49=ANN|56=BRS|7=1").Tags)
	Same(t, "Take", x.Take(7, ask), api.OK)
	again := x.Lines(7)
	Same(t, "lines", len(again), 7) // a skip over the log-on, and six reports
	for i, b := range again[1:] {
		_, tags, _, why := text.Decode(b)
		Same(t, "Decode", why, api.OK)
		n, _ := text.Number(tags, 17)
		Same(t, "the report", n, uint64(i+3))
	}
}
