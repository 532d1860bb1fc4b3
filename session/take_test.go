package session_test

import (
	"math"
	"strings"
	"testing"

	"bourse/api"
	. "bourse/sample"
	"bourse/session"
	"bourse/text"
)

// The three examples of the chapter, in one run.
func TestP23_5Examples(t *testing.T) {
	a, why := session.New("ANN", "BRS", true)
	Same(t, "New", why, api.OK)
	b, why := session.New("BRS", "ANN", false)
	Same(t, "New", why, api.OK)
	out, why := a.Begin()
	says(t, out, why, from("ANN", "A", 1, ""))
	keeps(t, a, on(true, 0, 1))
	takes(t, b, from("ANN", "A", 1, ""), nil, from("BRS", "A", 1, ""))
	keeps(t, b, on(false, 1, 1))
	takes(t, a, from("BRS", "A", 1, ""), nil)
	keeps(t, a, on(true, 1, 1))

	out, why = a.Send(numbered(7))
	says(t, out, why, from("ANN", "D", 2, "11=7|"))
	out, why = a.Send(numbered(8))
	says(t, out, why, from("ANN", "D", 3, "11=8|"))
	takes(t, b, from("ANN", "D", 3, "11=8|"), nil, from("BRS", "2", 2, "7=2|"))
	Same(t, "Asked", b.State().Asked, 2)
	takes(t, a, from("BRS", "2", 2, "7=2|"), nil, from("ANN", "D", 2, "43=Y|11=7|"), from("ANN", "D", 3, "43=Y|11=8|"))
	takes(t, b, from("ANN", "D", 2, "43=Y|11=7|"), []api.Letter{numbered(7)})
	takes(t, b, from("ANN", "D", 3, "43=Y|11=8|"), []api.Letter{numbered(8)})
	keeps(t, b, on(false, 3, 2))

	_, why = a.Send(letter("0"))
	Same(t, "Send of the kind 0", why, api.ErrArg)
	refuses(t, b, closed(bars("35=D|34=4|49=ANN|56=BOB|")), api.ErrLetter)
}

// What no line is, is refused as text.Decode refuses it.
func TestP23_5NoLine(t *testing.T) {
	s := opens(t, on(false, 4, 4))
	good := from("ANN", "D", 5, "11=7|")
	for _, x := range []struct {
		line string
		why  api.Errno
	}{
		{"", api.ErrShort}, {"x", api.ErrForm}, {good[:9], api.ErrShort}, {good[:len(good)-1], api.ErrShort}, {good[1:], api.ErrForm}, {"x" + good, api.ErrForm},
		{strings.Replace(good, "9=29", "9=28", 1), api.ErrBody}, {strings.Replace(good, "11=7", "11=8", 1), api.ErrTrail}, {bars("8=BRS.1|9=9999|"), api.ErrLong},
		{from("ANN", "DDD", 5, ""), api.ErrForm}, {from("ANN", "D", 5, "11|"), api.ErrForm}, {from("ANN", "D", 5, "8=7|"), api.ErrTag}, {from("ANN", "D", 5, "11=7|11=7|"), api.ErrTag}, {from("ANN", "D", 5, "11=|"), api.ErrValue},
		{from("ANN", "D", 5, "11=7|34=5|"), api.ErrTag}, {from("ANN", "D", 5, "49=ANN|"), api.ErrTag}, {from("ANN", "D", 5, "56=BRS|"), api.ErrTag}, {from("ANN", "D", 5, "43=Y|43=Y|"), api.ErrTag},
		{from("ANN", "D", 5, fields(many(62).Tags)), api.ErrLong}, {from("ANN", "A", 5, "49=BOB|") + "more", api.ErrTag},
	} {
		refuses(t, s, x.line, x.why)
	}
	takes(t, s, good, []api.Letter{numbered(7)})
}

func TestP23_5NoLetter(t *testing.T) {
	s := opens(t, on(false, 4, 4))
	for _, line := range []string{
		from("ANN", "D", 5, "11=7|") + "8", from("ANN", "D", 5, "") + from("ANN", "D", 6, ""), from("ANN", "0", 5, "") + "\x00",
		closed(bars("35=D|")), closed(bars("35=D|34=5|")), closed(bars("35=D|34=5|49=ANN|")), closed(bars("35=D|49=ANN|56=BRS|")), closed(bars("35=D|34=5|56=BRS|49=ANN|")), closed(bars("35=D|49=ANN|34=5|56=BRS|")),
		closed(bars("35=D|11=7|34=5|49=ANN|56=BRS|")), closed(bars("35=D|34=5|49=ANN|11=7|56=BRS|")), closed(bars("35=D|43=Y|34=5|49=ANN|56=BRS|")), closed(bars("35=D|33=5|49=ANN|56=BRS|")), closed(bars("35=D|34=5|50=ANN|56=BRS|")), closed(bars("35=D|34=5|49=ANN|57=BRS|")),
		closed(bars("35=D|34=0|49=ANN|56=BRS|")), closed(bars("35=D|34=05|49=ANN|56=BRS|")), closed(bars("35=D|34=+5|49=ANN|56=BRS|")), closed(bars("35=D|34=-5|49=ANN|56=BRS|")), closed(bars("35=D|34=5 |49=ANN|56=BRS|")), closed(bars("35=D|34=x|49=ANN|56=BRS|")), closed(bars("35=D|34=18446744073709551616|49=ANN|56=BRS|")), closed(bars("35=D|34=18446744073709551621|49=ANN|56=BRS|")),
		closed(bars("35=D|34=5|49=BOB|56=BRS|")), closed(bars("35=D|34=5|49=ANN|56=BOB|")), closed(bars("35=D|34=5|49=BRS|56=ANN|")), closed(bars("35=D|34=5|49=ann|56=BRS|")), closed(bars("35=D|34=5|49=ANNA|56=BRS|")), closed(bars("35=D|34=5|49=ANN|56=BR|")), from("BRS", "D", 5, ""),
		from("ANN", "D", 5, "43=N|"), from("ANN", "D", 5, "43=y|"), from("ANN", "D", 5, "43=YY|11=7|"), from("ANN", "D", 5, "11=7|43=Y|"), from("ANN", "D", 5, "11=7|43=N|12=8|"), from("ANN", "0", 5, "43=N|"), from("ANN", "2", 5, "7=1|43=Y|"),
		from("ANN", "A", 5, "11=7|"), from("ANN", "0", 5, "11=7|"), from("ANN", "5", 5, "7=1|"), from("ANN", "A", 5, "43=Y|11=7|"), from("ANN", "0", 5, "43=Y|36=9|"),
		from("ANN", "2", 5, ""), from("ANN", "2", 5, "7=0|"), from("ANN", "2", 5, "7=01|"), from("ANN", "2", 5, "7=x|"), from("ANN", "2", 5, "36=9|"), from("ANN", "2", 5, "7=1|11=7|"), from("ANN", "2", 5, "11=7|7=1|"), from("ANN", "2", 5, "43=Y|7=0|"), from("ANN", "2", 5, "43=Y|"), from("ANN", "2", 5, "7=18446744073709551616|"), from("ANN", "2", 5, "7=-1|"),
		from("ANN", "4", 5, ""), from("ANN", "4", 5, "36=0|"), from("ANN", "4", 5, "36=4|"), from("ANN", "4", 5, "36=5|"), from("ANN", "4", 5, "36=06|"), from("ANN", "4", 5, "36=x|"), from("ANN", "4", 5, "7=9|"), from("ANN", "4", 5, "36=9|7=9|"), from("ANN", "4", 5, "43=Y|36=5|"), from("ANN", "4", top, "36=18446744073709551615|"), from("ANN", "4", 5, "36=18446744073709551616|"), from("ANN", "4", 9, "36=7|"), from("ANN", "4", 3, "36=3|"),
	} {
		_, _, _, why := text.Decode([]byte(line))
		Same(t, "text.Decode of what is a line", why, api.OK)
		refuses(t, s, line, api.ErrLetter)
	}
}

// All kinds that are none of the session's are letters, with whatever fields.
func TestP23_5Letters(t *testing.T) {
	s := opens(t, on(true, 0, 0))
	n := uint64(0)
	for _, l := range []api.Letter{
		letter("D"), letter("1"), letter("3"), letter("6"), letter("a"), letter("AA"), letter("00"), letter("A0"), letter("22"), numbered(7),
		letter("8", api.Tag{Tag: 7, Value: "0"}, api.Tag{Tag: 36, Value: "0"}), letter("9", api.Tag{Tag: 9999, Value: "a,b=~ 43=Y"}, api.Tag{Tag: 1, Value: " "}), many(60),
	} {
		for _, again := range []string{"", "43=Y|"} {
			n++
			takes(t, s, from("BRS", l.Kind, n, again+fields(l.Tags)), []api.Letter{l})
			keeps(t, s, on(true, n, 0))
		}
	}
	takes(t, s, from("BRS", "D", n+1, fields(many(61).Tags)), []api.Letter{many(61)}) // with room for no 43
}

// A line of a number that came is nothing; of one above the next, an ask, if that was not asked for.
func TestP23_5Numbers(t *testing.T) {
	for _, first := range []bool{false, true} {
		own, peer := on(first, 0, 0).Own, on(first, 0, 0).Peer
		for _, x := range []struct {
			in, asked, n uint64
			want         string // the field of the ask
		}{
			{4, 0, 1, ""}, {4, 0, 3, ""}, {4, 0, 4, ""}, {4, 5, 4, ""}, {4, 0, 6, "7=5|"}, {4, 0, 7, "7=5|"}, {4, 0, top, "7=5|"}, {4, 5, 6, ""}, {4, 5, top, ""}, {4, 4, 6, "7=5|"}, {4, 6, 6, "7=5|"}, {4, top, 6, "7=5|"},
			{0, 0, 2, "7=1|"}, {0, 1, 2, ""}, {1 << 63, 0, 1, ""}, {1 << 63, 0, 1 << 63, ""}, {1 << 63, 0, 1<<63 + 2, "7=9223372036854775809|"}, {top, 0, top, ""}, {top, 7, 1, ""}, {top - 1, 0, top - 1, ""}, {top - 2, 0, top, "7=18446744073709551614|"},
		} {
			for _, kind := range []string{"A", "0", "4", "5", "D"} {
				k := on(first, x.in, 7)
				k.Asked, k.Quiet, k.Calm = x.asked, 3, 4
				for _, off := range []func(k *api.Link){func(k *api.Link) {}, func(k *api.Link) { k.On = false }, func(k *api.Link) { k.On, k.Done = false, true }} {
					k := k
					off(&k)
					s := opens(t, k)
					line := from(peer, kind, x.n, "")
					if kind == "4" && x.n == top {
						continue
					} else if kind == "4" {
						line = from(peer, kind, x.n, "36="+decimal(x.n+1)+"|")
					}
					if x.want == "" {
						takes(t, s, line, nil)
						keeps(t, s, k)
						continue
					}
					takes(t, s, line, nil, from(own, "2", 8, x.want))
					k.Asked, k.Quiet, k.Out = x.in+1, 0, 8
					keeps(t, s, k)
				}
			}
		}
	}
}

func TestP23_5Next(t *testing.T) {
	for _, x := range []struct {
		kind, rest      string
		first, on, done bool
		thenOn, thenOff bool
		answer          string
	}{
		{"A", "", false, false, false, true, false, "A"}, {"A", "", false, false, true, true, false, "A"}, {"A", "", false, true, false, true, false, ""}, {"A", "", true, false, false, true, false, ""}, {"A", "", true, false, true, false, true, ""}, {"A", "", true, true, false, true, false, ""}, {"A", "43=Y|", false, false, true, true, false, "A"},
		{"5", "", false, false, false, false, true, ""}, {"5", "", false, false, true, false, true, ""}, {"5", "", false, true, false, false, true, "5"}, {"5", "", true, false, false, false, true, ""}, {"5", "", true, false, true, false, true, ""}, {"5", "", true, true, false, false, true, "5"}, {"5", "43=Y|", true, true, false, false, true, "5"},
		{"0", "", false, false, false, true, false, ""}, {"0", "", false, false, true, false, true, ""}, {"0", "", false, true, false, true, false, ""}, {"0", "", true, false, false, true, false, ""}, {"0", "", true, false, true, false, true, ""}, {"0", "", true, true, false, true, false, ""}, {"0", "43=Y|", true, true, false, true, false, ""},
		{"4", "36=6|", false, false, false, true, false, ""}, {"4", "36=6|", false, false, true, false, true, ""}, {"4", "43=Y|36=6|", false, true, false, true, false, ""}, {"4", "43=Y|36=6|", true, false, false, true, false, ""}, {"4", "36=6|", true, false, true, false, true, ""}, {"4", "36=6|", true, true, false, true, false, ""},
		{"2", "7=8|", false, false, false, true, false, ""}, {"2", "7=9|", false, false, true, false, true, ""}, {"2", "7=18446744073709551615|", false, true, false, true, false, ""}, {"2", "43=Y|7=8|", true, false, false, true, false, ""}, {"2", "7=8|", true, false, true, false, true, ""}, {"2", "7=8|", true, true, false, true, false, ""},
		{"D", "11=7|", false, false, false, true, false, ""}, {"D", "11=7|", false, false, true, false, true, ""}, {"D", "11=7|", false, true, false, true, false, ""}, {"D", "43=Y|11=7|", true, false, false, true, false, ""}, {"D", "11=7|", true, false, true, false, true, ""}, {"D", "43=Y|11=7|", true, true, false, true, false, ""},
	} {
		k := on(x.first, 4, 7)
		k.On, k.Done, k.Asked, k.Quiet, k.Calm = x.on, x.done, 5, 3, 4
		s := opens(t, k)
		var want []string
		var told []api.Letter
		if x.answer != "" {
			want = append(want, from(k.Own, x.answer, 8, ""))
			k.Out, k.Quiet = 8, 0
		}
		if x.kind == "D" {
			told = []api.Letter{numbered(7)}
		}
		takes(t, s, from(k.Peer, x.kind, 5, x.rest), told, want...)
		k.In, k.On, k.Done, k.Asked, k.Calm = 5, x.thenOn, x.thenOff, 0, 0
		keeps(t, s, k)
	}
}

func TestP23_5Skip(t *testing.T) {
	for _, x := range []struct {
		in, n, next, then uint64
	}{
		{4, 5, 6, 5}, {4, 5, 7, 6}, {4, 5, 1 << 63, 1<<63 - 1}, {4, 5, top, top - 1}, {0, 1, 2, 1}, {0, 1, top, top - 1}, {top - 2, top - 1, top, top - 1},
		{4, 4, 9, 4}, {4, 1, top, 4}, {4, 2, 3, 4},
	} {
		for _, again := range []string{"", "43=Y|"} {
			k := on(true, x.in, 3)
			k.Calm = 9
			s := opens(t, k)
			takes(t, s, from("BRS", "4", x.n, again+"36="+decimal(x.next)+"|"), nil)
			k.In = x.then
			if x.then != x.in || x.n > x.in {
				k.Calm = 0
			}
			keeps(t, s, k)
		}
	}
	s := opens(t, on(true, 4, 3))
	takes(t, s, from("BRS", "4", 6, "36=9|"), nil, from("ANN", "2", 4, "7=5|"))
	Same(t, "In", s.State().In, 4)
	s = opens(t, on(true, top-1, 3))
	takes(t, s, from("BRS", "D", top, "11=7|"), []api.Letter{numbered(7)})
	keeps(t, s, on(true, top, 3))
	takes(t, s, from("BRS", "D", top, "11=7|"), nil)
	takes(t, s, from("BRS", "D", 1, "11=7|"), nil)
	keeps(t, s, on(true, top, 3))
}

// asked is what is answered to an ask for the numbers from n on.
func asked(t *testing.T, k api.Link, n uint64, want ...string) {
	t.Helper()
	k.Quiet, k.Calm = 3, 4
	s := opens(t, k)
	takes(t, s, from(k.Peer, "2", k.In, "7="+decimal(n)+"|"), nil, want...)
	if len(want) > 0 {
		k.Quiet = 0
	}
	keeps(t, s, k)
}

func TestP23_5Answers(t *testing.T) {
	k := some() // 9 lines, of which 2, 5 and 9 are letters
	second, fifth, ninth := from("ANN", "D", 2, "43=Y|11=1|"), from("ANN", "8", 5, "43=Y|"), closed(bars("35=AB|34=9|49=ANN|56=BRS|43=Y|")+"1=x|y"+bars("|7=0|"))
	skip := func(n, next uint64) string { return from("ANN", "4", n, "43=Y|36="+decimal(next)+"|") }
	for _, off := range []func(){func() {}, func() { k.On = false }, func() { k.Done = true }} {
		off()
		asked(t, k, 1, skip(1, 2), second, skip(3, 5), fifth, skip(6, 9), ninth)
		asked(t, k, 2, second, skip(3, 5), fifth, skip(6, 9), ninth)
		asked(t, k, 3, skip(3, 5), fifth, skip(6, 9), ninth)
		asked(t, k, 4, skip(4, 5), fifth, skip(6, 9), ninth)
		asked(t, k, 5, fifth, skip(6, 9), ninth)
		asked(t, k, 6, skip(6, 9), ninth)
		asked(t, k, 8, skip(8, 9), ninth)
		asked(t, k, 9, ninth)
		asked(t, k, 10)
		asked(t, k, top)
	}
	k = some()
	k.Out = 12
	asked(t, k, 9, ninth, skip(10, 13))
	asked(t, k, 11, skip(11, 13))
	asked(t, k, 12, skip(12, 13))
	asked(t, k, 13)
	k.Sent = nil
	asked(t, k, 1, skip(1, 13))
	k.Out = 1 << 62
	asked(t, k, 1, skip(1, 1<<62+1))
	asked(t, k, 1<<62, skip(1<<62, 1<<62+1))
	asked(t, k, 1<<62+1)
	k.Out = 0
	asked(t, k, 1)
	k = on(true, 4, 3)
	k.Sent = []api.Sent{{Number: 1, Letter: numbered(1)}, {Number: 2, Letter: numbered(2)}, {Number: 3, Letter: long("ANN", 0)}}
	asked(t, k, 1, from("ANN", "D", 1, "43=Y|11=1|"), from("ANN", "D", 2, "43=Y|11=2|"), from("ANN", "D", 3, "43=Y|"+fields(long("ANN", 0).Tags)))
}

// An ask is answered wherever its number lies: behind an ask of the end's own, which counts, and behind what it turns on.
func TestP23_5AsksAnswered(t *testing.T) {
	k := on(false, 4, 2)
	k.Sent = []api.Sent{{Number: 2, Letter: numbered(7)}}
	second := from("BRS", "D", 2, "43=Y|11=7|")
	s := opens(t, k)
	takes(t, s, from("ANN", "2", 9, "7=2|"), nil, from("BRS", "2", 3, "7=5|"), second, from("BRS", "4", 3, "43=Y|36=4|"))
	k.Out, k.Asked = 3, 5
	keeps(t, s, k)
	takes(t, s, from("ANN", "2", 9, "7=2|"), nil, second, from("BRS", "4", 3, "43=Y|36=4|"))
	takes(t, s, from("ANN", "2", 9, "7=3|"), nil, from("BRS", "4", 3, "43=Y|36=4|"))
	takes(t, s, from("ANN", "2", 9, "7=4|"), nil)
	takes(t, s, from("ANN", "2", 1, "7=3|"), nil, from("BRS", "4", 3, "43=Y|36=4|"))
	keeps(t, s, k)
	takes(t, s, from("ANN", "2", 5, "7=2|"), nil, second, from("BRS", "4", 3, "43=Y|36=4|"))
	k.In, k.Asked = 5, 0
	keeps(t, s, k)
	takes(t, s, from("ANN", "2", 9, "7=3|"), nil, from("BRS", "2", 4, "7=6|"), from("BRS", "4", 3, "43=Y|36=5|"))

	k.On, k.Calm, k.Quiet = false, 9, 9
	s = opens(t, k)
	takes(t, s, from("ANN", "2", 6, "43=Y|7=2|"), nil, second, from("BRS", "4", 3, "43=Y|36=4|"))
	k.In, k.On, k.Calm, k.Quiet = 6, true, 0, 0
	keeps(t, s, k)
}

func TestP23_5Memory(t *testing.T) {
	s := opens(t, on(false, 4, 4))
	line := from("ANN", "D", 5, "11=7|12=8|")
	room := append(make([]byte, 0, 2*len(line)), line...)
	l, _, why := s.Take(room)
	Same(t, "Take", why, api.OK)
	Same(t, "what was handed in", string(room[:cap(room)]), line+strings.Repeat("\x00", cap(room)-len(line)))
	Spoil(room, 'x')
	want := written([]api.Letter{letter("D", api.Tag{Tag: 11, Value: "7"}, api.Tag{Tag: 12, Value: "8"})})
	Same(t, "the letter", written(l), want)
	Spoil(l[0].Tags, api.Tag{Tag: 99, Value: "spoilt"})
	_, why = s.Send(numbered(1))
	Same(t, "Send", why, api.OK)
	_, a, _ := s.Take([]byte(from("ANN", "2", 6, "7=1|")))
	_, b, _ := s.Take([]byte(from("ANN", "2", 6, "7=1|")))
	want = lines(b)
	for i := range a {
		Spoil(a[i], 'x')
	}
	Same(t, "lines, others being spoilt", lines(b), want)
	Spoil(b[0], 'x')
	Same(t, "a line, the one ahead being spoilt", string(b[1]), from("BRS", "D", 5, "43=Y|11=1|"))
}

// An end that no call made ends each call, too.
func TestP23_5NotMade(t *testing.T) {
	var s session.Session
	s.Begin()
	s.End()
	s.Send(numbered(1))
	s.Tick()
	for _, line := range []string{"", from("ANN", "A", 1, ""), closed(bars("35=A|34=1|49=|56=|"))} {
		s.Take([]byte(line))
	}
	s.State()
	for _, k := range []api.Link{{}, {Out: math.MaxUint64, Quiet: math.MinInt}} {
		session.Open(k)
	}
}
