package session_test

import (
	"math"
	"slices"
	"strings"
	"testing"

	"bourse/api"
	. "bourse/sample"
	"bourse/session"
)

func TestP23_1New(t *testing.T) {
	fair := []string{"A", "Z", "AZ", "ANN", "ABCDEFGHIJKLMNOP", strings.Repeat("Z", 16)}
	for _, own := range fair {
		for _, peer := range fair { // an end may be of its peer's name
			for _, first := range []bool{false, true} {
				s, why := session.New(own, peer, first)
				Same(t, "New", why, api.OK)
				keeps(t, s, api.Link{Own: own, Peer: peer, First: first})
			}
		}
	}
	for _, wrong := range []string{"", strings.Repeat("Z", 17), "ABCDEFGHIJKLMNOPQ", "a", "z", "Ann", "@", "[", "A1", "A ", " A", "A\x01", "A\x00", "Ä", "A|", "\xc1", strings.Repeat("A", 1<<16)} {
		for _, pair := range [][2]string{{wrong, "BRS"}, {"ANN", wrong}, {wrong, wrong}} {
			for _, first := range []bool{false, true} {
				if s, why := session.New(pair[0], pair[1], first); s != nil || why != api.ErrArg {
					t.Fatalf("New(%q, %q, %v): %v, %v", pair[0], pair[1], first, s, why)
				}
			}
		}
	}
}

// some is a link with something in each of its fields.
func some() api.Link {
	k := on(true, 7, 9)
	k.Asked, k.Quiet, k.Calm = 8, 3, 4
	k.Sent = []api.Sent{{Number: 2, Letter: numbered(1)}, {Number: 5, Letter: letter("8")}, {Number: 9, Letter: letter("AB", api.Tag{Tag: 1, Value: "x|y"}, api.Tag{Tag: 7, Value: "0"})}}
	return k
}

func TestP23_1Open(t *testing.T) {
	for _, x := range []struct {
		what   string
		change func(k *api.Link)
		ok     bool
	}{
		{"all as it is", func(k *api.Link) {}, true},
		{"no own name", func(k *api.Link) { k.Own = "" }, false}, {"no peer's name", func(k *api.Link) { k.Peer = "brs" }, false}, {"a long name", func(k *api.Link) { k.Own = strings.Repeat("A", 16) }, true}, {"too long a name", func(k *api.Link) { k.Peer = strings.Repeat("A", 17) }, false},
		{"not first", func(k *api.Link) { k.First = false }, true}, {"neither on nor done", func(k *api.Link) { k.On = false }, true}, {"done", func(k *api.Link) { k.On, k.Done = false, true }, true}, {"on and done", func(k *api.Link) { k.Done = true }, false},
		{"the greatest number sent", func(k *api.Link) { k.Out = 1 << 62 }, true}, {"a greater one", func(k *api.Link) { k.Out = 1<<62 + 1 }, false}, {"the greatest of all", func(k *api.Link) { k.Out = top }, false},
		{"nothing taken", func(k *api.Link) { k.In = 0 }, true}, {"the greatest number taken", func(k *api.Link) { k.In = top }, true}, {"the greatest number asked for", func(k *api.Link) { k.Asked = top }, true}, {"a number asked for long ago", func(k *api.Link) { k.Asked = 1 }, true},
		{"quiet for 0", func(k *api.Link) { k.Quiet = 0 }, true}, {"quiet for ever", func(k *api.Link) { k.Quiet = 1 << 31 }, true}, {"quiet for longer", func(k *api.Link) { k.Quiet = 1<<31 + 1 }, false}, {"quiet for -1", func(k *api.Link) { k.Quiet = -1 }, false}, {"quiet for the longest", func(k *api.Link) { k.Quiet = math.MaxInt }, false},
		{"calm for 0", func(k *api.Link) { k.Calm = 0 }, true}, {"calm for ever", func(k *api.Link) { k.Calm = 1 << 31 }, true}, {"calm for longer", func(k *api.Link) { k.Calm = 1<<31 + 1 }, false}, {"calm for -1", func(k *api.Link) { k.Calm = -1 }, false}, {"calm for the longest minus", func(k *api.Link) { k.Calm = math.MinInt }, false},
		{"nothing kept", func(k *api.Link) { k.Sent = nil }, true}, {"an empty list", func(k *api.Link) { k.Sent = []api.Sent{} }, true}, {"nothing sent nor kept", func(k *api.Link) { k.Sent, k.Out = nil, 0 }, true},
		{"a letter above the last line", func(k *api.Link) { k.Out = 8 }, false}, {"a letter of the number 0", func(k *api.Link) { k.Sent[0].Number = 0 }, false}, {"of the number 1", func(k *api.Link) { k.Sent[0].Number = 1 }, true},
		{"two of one number", func(k *api.Link) { k.Sent[1].Number = 2 }, false}, {"numbers that fall", func(k *api.Link) { k.Sent[0].Number = 6 }, false}, {"one above all behind it", func(k *api.Link) { k.Sent[1].Number = top }, false}, {"numbers that rise one by one", func(k *api.Link) { k.Sent[1].Number = 8 }, true},
		{"a log-on kept", func(k *api.Link) { k.Sent[1].Letter.Kind = "A" }, false}, {"a beat kept", func(k *api.Link) { k.Sent[1].Letter.Kind = "0" }, false}, {"an ask kept", func(k *api.Link) { k.Sent[0].Letter.Kind = "2" }, false}, {"a skip kept", func(k *api.Link) { k.Sent[2].Letter.Kind = "4" }, false}, {"a log-off kept", func(k *api.Link) { k.Sent[2].Letter.Kind = "5" }, false},
		{"a letter of no kind", func(k *api.Link) { k.Sent[1].Letter.Kind = "" }, false}, {"a letter with a head's field", func(k *api.Link) { k.Sent[0].Letter.Tags[0].Tag = 43 }, false}, {"a letter with an empty field", func(k *api.Link) { k.Sent[2].Letter.Tags[1].Value = "" }, false},
		{"a letter whose line is too long if it is sent again", func(k *api.Link) { k.Sent[0].Letter = long("ANN", 1) }, false}, {"a letter whose line is just as long as can be", func(k *api.Link) { k.Sent[0].Letter = long("ANN", 0) }, true},
	} {
		k := some()
		x.change(&k)
		Same(t, "the test's own words of "+x.what, canBe(k), x.ok)
		if x.ok {
			opens(t, k)
		} else if s, why := session.Open(k); s != nil || why != api.ErrArg {
			t.Fatalf("Open of %s: %v, %v", x.what, s, why)
		}
	}
}

func TestP23_1OpenMany(t *testing.T) {
	k := on(false, 0, 1<<62)
	for i := range api.MaxSent {
		k.Sent = append(k.Sent, api.Sent{Number: uint64(i + 1), Letter: numbered(i)})
	}
	k.Sent[api.MaxSent-1].Number = 1 << 62
	opens(t, k)
	k.Sent = slices.Insert(k.Sent, api.MaxSent-1, api.Sent{Number: 1 << 61, Letter: numbered(1)})
	if s, why := session.Open(k); s != nil || why != api.ErrArg {
		t.Fatalf("Open with a letter too many: %v, %v", s, why)
	}
}

// roomy is a link whose lists have spare room.
func roomy() api.Link {
	k := some()
	k.Sent = append(make([]api.Sent, 0, 9), k.Sent...)
	for i := range k.Sent {
		k.Sent[i].Letter.Tags = append(make([]api.Tag, 0, 9), k.Sent[i].Letter.Tags...)
	}
	return k
}

func spoil(k api.Link) {
	for _, x := range k.Sent {
		Spoil(x.Letter.Tags, api.Tag{Tag: 99, Value: "spoilt"})
	}
	Spoil(k.Sent, api.Sent{Number: 99, Letter: letter("X")})
}

func TestP23_1Memory(t *testing.T) {
	k := roomy()
	s := opens(t, k)
	_, why := s.Send(numbered(7))
	Same(t, "Send", why, api.OK)
	Same(t, "what was handed in", link(k), link(roomy()))
	Same(t, "its spare room", k.Sent[:9][3].Number, 0)
	want := link(s.State())
	spoil(k)
	Same(t, "State, what was handed in being spoilt", link(s.State()), want)
	a, b := s.State(), s.State()
	spoil(a)
	Same(t, "State, another one being spoilt", link(b), want)
	spoil(b)
	Same(t, "State, two others being spoilt", link(s.State()), want)
}

func TestP23_2Begin(t *testing.T) {
	for _, x := range []struct {
		first, on, done bool
		why             api.Errno
	}{
		{true, false, false, api.OK}, {true, false, true, api.OK}, {true, true, false, api.ErrLogon}, {false, false, false, api.ErrLogon}, {false, false, true, api.ErrLogon}, {false, true, false, api.ErrLogon},
	} {
		k := some()
		k.First, k.On, k.Done = x.first, x.on, x.done
		s := opens(t, k)
		out, why := s.Begin()
		if x.why != api.OK {
			Same(t, "Begin", why, x.why)
			Same(t, "Begin", len(out), 0)
			keeps(t, s, k)
			continue
		}
		says(t, out, why, from("ANN", "A", 10, ""))
		k.On, k.Done, k.Calm, k.Quiet, k.Out = true, false, 0, 0, 10
		keeps(t, s, k)
	}
}

func TestP23_2End(t *testing.T) {
	for _, first := range []bool{false, true} {
		k := some()
		k.First = first
		s := opens(t, k)
		out, why := s.End()
		says(t, out, why, from("ANN", "5", 10, ""))
		k.On, k.Done, k.Quiet, k.Out = false, true, 0, 10
		keeps(t, s, k)
		for _, done := range []bool{true, false} {
			k.Done = done
			s = opens(t, k)
			out, why = s.End()
			Same(t, "End", why, api.ErrOff)
			Same(t, "End", len(out), 0)
			keeps(t, s, k)
		}
	}
}

// long is a letter of an end of that name, whose line is so many bytes longer than it may be if it is sent again with the greatest number.
func long(own string, over int) api.Letter {
	head := "8=BRS.1|9=2033|35=D|34=18446744073709551615|49=" + own + "|56=BRS|43=Y|1=|10=000|"
	return letter("D", api.Tag{Tag: 1, Value: strings.Repeat("x", api.MaxLine+over-len(head))})
}

// many is a letter of so many fields.
func many(n int) api.Letter {
	l := letter("D")
	for i := range n {
		l.Tags = append(l.Tags, api.Tag{Tag: 100 + i, Value: "x"})
	}
	return l
}

func TestP23_3Send(t *testing.T) {
	k := on(true, 4, 1<<62-3)
	k.Quiet, k.Calm, k.Asked = 9, 9, 5
	s := opens(t, k)
	for i, l := range []api.Letter{numbered(1), letter("8"), letter("zz", api.Tag{Tag: 9999, Value: "a|b=~ "}, api.Tag{Tag: 7, Value: "0"}), many(60), long("ANN", 0), letter("00"), letter("AA")} {
		n := uint64(1<<62 - 2 + i)
		out, why := s.Send(l)
		Same(t, "Send", why, api.OK)
		Same(t, "the line", lines(out), listed(closed("35="+l.Kind+bars("|34=")+decimal(n)+bars("|49=ANN|56=BRS|")+fields(l.Tags))))
		k.Out, k.Quiet = n, 0
		k.Sent = append(k.Sent, api.Sent{Number: n, Letter: l})
		keeps(t, s, k)
	}
}

func TestP23_3Refused(t *testing.T) {
	wrong := api.Tag{Tag: 34, Value: ""}
	for _, x := range []struct {
		l   api.Letter
		why api.Errno
	}{
		{letter("", wrong), api.ErrForm}, {letter("ABC"), api.ErrForm}, {letter("-"), api.ErrForm}, {letter("A "), api.ErrForm}, {letter(" "), api.ErrForm}, {api.Letter{Kind: "é", Tags: many(61).Tags}, api.ErrForm},
		{letter("A"), api.ErrArg}, {letter("0", wrong), api.ErrArg}, {api.Letter{Kind: "2", Tags: many(99).Tags}, api.ErrArg}, {letter("2", api.Tag{Tag: 7, Value: "1"}), api.ErrArg}, {letter("4", api.Tag{Tag: 36, Value: "9"}), api.ErrArg}, {letter("5"), api.ErrArg},
		{many(61), api.ErrLong}, {many(1 << 12), api.ErrLong}, {api.Letter{Kind: "D", Tags: append(many(60).Tags, wrong)}, api.ErrLong},
		{letter("D", wrong), api.ErrTag}, {letter("D", api.Tag{Tag: 49, Value: "x"}), api.ErrTag}, {letter("D", api.Tag{Tag: 56, Value: "x"}), api.ErrTag}, {letter("D", api.Tag{Tag: 43, Value: "Y"}), api.ErrTag}, {letter("D", api.Tag{Tag: 43, Value: "N"}), api.ErrTag},
		{letter("D", api.Tag{Tag: 0, Value: "x"}), api.ErrTag}, {letter("D", api.Tag{Tag: 10000, Value: "x"}), api.ErrTag}, {letter("D", api.Tag{Tag: 10, Value: "x"}), api.ErrTag}, {letter("D", api.Tag{Tag: 1, Value: "x"}, api.Tag{Tag: 1, Value: "x"}), api.ErrTag},
		{letter("D", api.Tag{Tag: 1}), api.ErrValue}, {letter("D", api.Tag{Tag: 1, Value: "\x01"}), api.ErrValue}, {letter("D", api.Tag{Tag: 1, Value: "ä"}, wrong), api.ErrValue}, {letter("D", api.Tag{Tag: 1, Value: strings.Repeat("x", 9999)}, wrong), api.ErrTag},
		{long("ANN", 1), api.ErrLong}, {long("ANN", 1<<16), api.ErrLong},
	} {
		for _, full := range []bool{false, true} {
			k := on(true, 4, 5000)
			k.Quiet, k.Calm = 9, 9
			for i := range api.MaxSent {
				if full {
					k.Sent = append(k.Sent, api.Sent{Number: uint64(i + 1), Letter: letter("D")})
				}
			}
			s := opens(t, k)
			before := link(s.State())
			out, why := s.Send(x.l)
			Same(t, "Send of "+written([]api.Letter{x.l}), why, x.why)
			Same(t, "the lines", len(out), 0)
			Same(t, "behind a refusal", link(s.State()), before)
			if !full {
				k.On = false
				_, why = opens(t, k).Send(x.l)
				Same(t, "Send of an end that is not on", why, api.ErrOff)
			}
		}
	}
}

func TestP23_3Room(t *testing.T) {
	s := opens(t, on(false, 0, 0))
	for i := range api.MaxSent {
		_, why := s.Send(numbered(i))
		Same(t, "Send", why, api.OK)
	}
	before := s.State()
	out, why := s.Send(numbered(1))
	Same(t, "Send", why, api.ErrSent)
	Same(t, "the lines", len(out), 0)
	keeps(t, s, before)
	Same(t, "letters kept", len(before.Sent), api.MaxSent)
	_, out, why = s.Take([]byte(from("ANN", "2", 1, "7=1|")))
	Same(t, "Take", why, api.OK)
	Same(t, "letters sent again", len(out), api.MaxSent)
}

func TestP23_3Memory(t *testing.T) {
	tags := append(make([]api.Tag, 0, 9), api.Tag{Tag: 11, Value: "7"})
	s := opens(t, on(true, 0, 0))
	out, why := s.Send(letter("D", tags...))
	says(t, out, why, from("ANN", "D", 1, "11=7|"))
	SameList(t, "what was handed in", tags[:9], append([]api.Tag{{Tag: 11, Value: "7"}}, make([]api.Tag, 8)...))
	Spoil(tags, api.Tag{Tag: 12, Value: "8"})
	Spoil(out[0], 'x')
	takes(t, s, from("BRS", "2", 1, "7=1|"), nil, from("ANN", "D", 1, "43=Y|11=7|"))
}

func TestP23_4Ticks(t *testing.T) {
	s := opens(t, on(true, 4, 0))
	n := uint64(0)
	for i := 1; i <= 200; i++ {
		var want []string
		if i%10 == 0 {
			n++
			want = append(want, from("ANN", "0", n, ""))
		}
		if i%20 == 0 {
			n++
			want = append(want, from("ANN", "2", n, "7=5|"))
		}
		says(t, s.Tick(), api.OK, want...)
		k := on(true, 4, n)
		k.Quiet, k.Calm = i%10, i
		if i >= 20 {
			k.Asked = 5
		}
		keeps(t, s, k)
	}
}

// Whatever was sent makes the quiet begin anew, whatever was taken in its order the calm, each by itself.
func TestP23_4Begun(t *testing.T) {
	k := on(true, 4, 7)
	k.Quiet, k.Calm = 8, 18
	s := opens(t, k)
	says(t, s.Tick(), api.OK)
	_, why := s.Send(numbered(1))
	Same(t, "Send", why, api.OK)
	says(t, s.Tick(), api.OK, from("ANN", "2", 9, "7=5|"))
	k = s.State()
	Same(t, "Calm", k.Calm, 20)
	Same(t, "Quiet", k.Quiet, 0)
	Same(t, "Asked", k.Asked, 5)
	for range 9 {
		says(t, s.Tick(), api.OK)
	}
	takes(t, s, from("BRS", "0", 5, ""), nil)
	says(t, s.Tick(), api.OK, from("ANN", "0", 10, ""))
	k = s.State()
	Same(t, "Calm", k.Calm, 1)
	Same(t, "Asked", k.Asked, 0)
}

func TestP23_4Edges(t *testing.T) {
	const far = 1 << 31
	beat, ask := from("ANN", "0", 8, ""), from("ANN", "2", 8, "7=5|")
	for _, x := range []struct {
		quiet, calm         int
		thenQuiet, thenCalm int
		want                []string
	}{
		{8, 0, 9, 1, nil}, {9, 0, 0, 1, []string{beat}}, {10, 0, 0, 1, []string{beat}}, {far - 1, 0, 0, 1, []string{beat}}, {far, 0, 0, 1, []string{beat}},
		{0, 18, 1, 19, nil}, {0, 19, 0, 20, []string{ask}}, {0, 20, 1, 21, nil}, {0, 38, 1, 39, nil}, {0, 39, 0, 40, []string{ask}}, {0, 40, 1, 41, nil}, {0, 1999, 0, 2000, []string{ask}}, {0, 2000, 1, 2001, nil},
		{9, 19, 0, 20, []string{beat, from("ANN", "2", 9, "7=5|")}},
		{0, far - 10, 1, far - 9, nil}, {0, far - 9, 0, far - 8, []string{ask}}, {0, far - 8, 1, far - 7, nil}, {0, far - 1, 1, far, nil}, {0, far, 1, far, nil}, {far, far, 0, far, []string{beat}},
	} {
		k := on(true, 4, 7)
		k.Quiet, k.Calm = x.quiet, x.calm
		s := opens(t, k)
		says(t, s.Tick(), api.OK, x.want...)
		k.Quiet, k.Calm, k.Out = x.thenQuiet, x.thenCalm, 7+uint64(len(x.want))
		if strings.Contains(listed(x.want...), "\x017=5\x01") {
			k.Asked = 5
		}
		keeps(t, s, k)
	}
}

func TestP23_4Off(t *testing.T) {
	for _, done := range []bool{false, true} {
		k := some()
		k.On, k.Done, k.Quiet, k.Calm = false, done, 9, 19
		s := opens(t, k)
		for range 50 {
			says(t, s.Tick(), api.OK)
			keeps(t, s, k)
		}
	}
}
