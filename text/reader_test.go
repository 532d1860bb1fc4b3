package text_test

import (
	"fmt"
	"slices"
	"strings"
	"testing"

	"bourse/api"
	"bourse/text"
)

// line is one that comes out of a reader.
type line struct {
	kind string
	l    []api.Tag
}

func (a line) same(b line) bool { return a.kind == b.kind && slices.Equal(a.l, b.l) }

// wantedNext is what P3.6 asks of a reader that holds s: what it tells (at: whether a line), and what it holds then.
func wantedNext(s string) (told, string) {
	want, step := wanted(s)
	switch {
	case want.why == api.OK:
		return told{want.kind, want.l, 1, api.OK}, s[want.at:]
	case want.why == api.ErrShort:
		return told{}, s
	case step == 7:
		end := strings.Index(s[10:], "\x01") + 11
		var n int
		fmt.Sscanf(s[10:end-1], "%d", &n)
		return told{why: want.why}, s[end+n+7:]
	}
	if i := strings.Index(s[1:], "8="); i >= 0 {
		return told{why: want.why}, s[1+i:]
	}
	if strings.HasSuffix(s, "8") {
		return told{why: want.why}, "8"
	}
	return told{why: want.why}, ""
}

// next asks a reader that holds s, and answers what it holds then.
func next(t *testing.T, r *text.Reader, s string) (told, string) {
	t.Helper()
	kind, l, ok, why := r.Next()
	got := told{kind: kind, l: l, why: why}
	if ok {
		got.at = 1
	}
	want, rest := wantedNext(s)
	if !got.same(want) || r.Waiting() != len(rest) {
		t.Fatalf("Next of %q: wanted %v and %d held, got %v and %d", s, want, len(rest), got, r.Waiting())
	}
	return got, rest
}

// drained asks a reader that holds s until it waits: the lines, and what it holds then.
func drained(t *testing.T, r *text.Reader, s string) ([]line, string) {
	t.Helper()
	var out []line
	for range len(s) + 1 {
		before := len(s)
		got, rest := next(t, r, s)
		if got.same(told{}) {
			return out, rest
		}
		if len(rest) >= before {
			t.Fatalf("nothing of %q is let go of", s)
		}
		if got.at == 1 {
			out = append(out, line{got.kind, got.l})
		}
		s = rest
	}
	t.Fatalf("more calls than bytes of %q", s)
	return nil, ""
}

func fed(t *testing.T, r *text.Reader, s string) {
	t.Helper()
	b := spare(s)
	before := r.Waiting()
	if why := r.Feed(b); why != api.OK || r.Waiting() != before+len(s) {
		t.Fatalf("Feed of %d bytes to %d: %v, %d held", len(s), before, why, r.Waiting())
	}
	if !untouched(b, s) {
		t.Fatal("Feed changed its bytes")
	}
	clear(b[:cap(b)])
}

func TestP3_5Feed(t *testing.T) {
	r := text.NewReader()
	if r.Waiting() != 0 {
		t.Error("a new one holds", r.Waiting())
	}
	fed(t, r, "")
	next(t, r, "")
	if why := r.Feed(nil); why != api.OK || r.Waiting() != 0 {
		t.Error(why, r.Waiting())
	}
	fed(t, r, "8=B")
	fed(t, r, "RS")
	next(t, r, "8=BRS")
}

func TestP3_5Room(t *testing.T) {
	full := make([]byte, api.MaxHeld)
	r := text.NewReader()
	if why := r.Feed(append(full, 0)); why != api.ErrLong || r.Waiting() != 0 {
		t.Error("one too many at once:", why, r.Waiting())
	}
	fed(t, r, string(full))
	if why := r.Feed([]byte{0}); why != api.ErrLong || r.Waiting() != api.MaxHeld {
		t.Error("one too many:", why, r.Waiting())
	}
	fed(t, r, "")
	next(t, r, string(full))

	s := "8=BRS.1\x019=2"
	fed(t, r, s)
	for _, n := range []int{api.MaxHeld, api.MaxHeld - len(s) + 1} {
		if why := r.Feed(full[:n]); why != api.ErrLong || r.Waiting() != len(s) {
			t.Error("too many behind others:", n, why, r.Waiting())
		}
	}
	// Nothing of what was refused is there.
	fed(t, r, example[len("8=BRS.1|9=1"):])
	next(t, r, s+example[len("8=BRS.1|9=1"):])
}

func TestP3_5RoomAgain(t *testing.T) {
	r := text.NewReader()
	whole := strings.Repeat(example, api.MaxHeld/len(example)) + example[:api.MaxHeld%len(example)]
	fed(t, r, whole)
	_, rest := next(t, r, whole)
	if why := r.Feed(make([]byte, len(example)+1)); why != api.ErrLong {
		t.Error("more than was let go of:", why)
	}
	fed(t, r, example)
	rest += example
	if out, left := drained(t, r, rest); len(out) != api.MaxHeld/len(example) {
		t.Error(len(out), left)
	}
}

func TestP3_6Example(t *testing.T) {
	r := text.NewReader()
	s := bars("zz8=BRS.1|9=5|35=0|10=")
	fed(t, r, s)
	got, rest := next(t, r, s)
	if got.why != api.ErrForm || rest != s[2:] {
		t.Error(got, rest)
	}
	next(t, r, rest)
	tail := closed(bars("8=BRS.1|9=5|35=0|"))[len(s)-2:]
	fed(t, r, tail)
	if got, rest := next(t, r, rest+tail); got.kind != "0" || got.at != 1 || rest != "" {
		t.Error(got, rest)
	}
}

// What is held behind each error of each step.
func TestP3_6Feet(t *testing.T) {
	spoilt := strings.Replace(example, "10=067", "10=068", 1)
	for _, c := range []struct {
		in   string
		why  api.Errno
		left int
	}{
		{"z", api.ErrForm, 0},
		{"zz", api.ErrForm, 0},
		{"=", api.ErrForm, 0},
		{"88", api.ErrForm, 1},
		{"888", api.ErrForm, 1},
		{"z8", api.ErrForm, 1},
		{"z8z", api.ErrForm, 0},
		{"8z8", api.ErrForm, 1},
		{"8=8=", api.ErrForm, 2},
		{"8=8", api.ErrForm, 1},
		{"8=z", api.ErrForm, 0},
		{"88=", api.ErrForm, 2},
		{"z8=BRS", api.ErrForm, 5},
		{"z8=x8=", api.ErrForm, 5},
		{"8=BRS.1\x01x", api.ErrForm, 0},
		{"8=BRS.1\x019=x", api.ErrForm, 0},
		{"8=BRS.1\x019=123456", api.ErrForm, 0},
		{"8=BRS.1\x019=8x8=BR", api.ErrForm, 4},
		{"8=BRS.1\x019=8=BR", api.ErrForm, 4},
		{"8=BRS.1\x019=9999\x01", api.ErrLong, 0},
		{"8=BRS.1\x019=9999\x018=BRS", api.ErrLong, 5},
		{"8=BRS.1\x019=9998\x018", api.ErrLong, 1},
		{"8=BRS.1\x019=0\x0110=000\x01" + example, api.ErrBody, len(example)},
		{"8=BRS.1\x019=8\x0135=D\x018=" + example, api.ErrBody, 2 + len(example)},
		{spoilt, api.ErrTrail, 0},
		{spoilt + example, api.ErrTrail, len(example)},
		{spoilt + "8", api.ErrTrail, 1},
	} {
		r := text.NewReader()
		fed(t, r, c.in)
		if got, rest := next(t, r, c.in); got.why != c.why || len(rest) != c.left {
			t.Errorf("%q: %v, %q held", c.in, got, rest)
		}
	}
}

// A line whose outline is sound goes whole, whatever stands within it.
func TestP3_6WholeLine(t *testing.T) {
	inner := "8=BRS.1"
	for body, want := range map[string]api.Errno{
		"34=D\x01":                                api.ErrForm,
		"35=D\x01" + inner + "\x01":               api.ErrTag,
		"35=D\x0111=" + inner + "\x01=\x01":       api.ErrForm,
		"35=D\x0111=\x01":                         api.ErrValue,
		"35=D\x01" + strings.Repeat("8=\x01", 70): api.ErrTag,
		many() + "8=\x01":                         api.ErrLong,
	} {
		for _, behind := range []string{"", "8", "z", example} {
			s := bodied(body) + behind
			r := text.NewReader()
			fed(t, r, s)
			if got, rest := next(t, r, s); got.why != want || rest != behind {
				t.Errorf("%q: %v, %q held", s, got, rest)
			}
		}
	}
}

// many is a body with as many fields as there may be.
func many() string {
	s := "35=D\x01"
	for i := range 64 {
		s += fmt.Sprintf("%d=v\x01", 100+i)
	}
	return s
}

func TestP3_6Waits(t *testing.T) {
	for n := range len(example) {
		r := text.NewReader()
		fed(t, r, example[:n])
		for range 3 {
			if got, rest := next(t, r, example[:n]); !got.same(told{}) || rest != example[:n] {
				t.Fatal(n, got, rest)
			}
		}
		fed(t, r, example[n:])
		if got, _ := next(t, r, example); got.at != 1 {
			t.Fatal(n, got)
		}
	}
}

func TestP3_6NewMemory(t *testing.T) {
	r := text.NewReader()
	fed(t, r, example+example)
	_, a, _, _ := r.Next()
	_, b, _, _ := r.Next()
	clear(a[:cap(a)])
	if want := []api.Tag{{Tag: 11, Value: "7"}, {Tag: 55, Value: "A"}}; !slices.Equal(b, want) {
		t.Error("two answers share memory:", b)
	}
	fed(t, r, example)
	if _, c, _, _ := r.Next(); len(c) != 2 || c[0].Value != "7" {
		t.Error("an answer is shared with the reader:", c)
	}
}

func TestP3_6TwoReaders(t *testing.T) {
	a, b := text.NewReader(), text.NewReader()
	fed(t, a, example[:9])
	fed(t, b, "zz")
	if a.Waiting() != 9 || b.Waiting() != 2 {
		t.Error(a.Waiting(), b.Waiting())
	}
	next(t, b, "zz")
	fed(t, a, example[9:])
	if got, _ := next(t, a, example); got.at != 1 {
		t.Error(got)
	}
}

// stream is lines, spoilt ones, and pieces of them.
func (x *mixer) stream(n int) string {
	s := ""
	for range n {
		piece := laid(x.kind(), x.fields())
		switch x.below(9) {
		case 0:
			b := []byte(piece)
			b[x.below(len(b))] = "8=\x01z0"[x.below(5)]
			piece = string(b)
		case 1:
			piece = piece[:x.below(len(piece))]
		case 2:
			piece = piece[x.below(len(piece)):]
		case 3:
			piece = x.of("8=B\x01z", x.below(12))
		case 4:
			piece = bodied(x.body())
		case 5:
			piece = bodied("35=D\x0111=" + laid("Z", nil))
		}
		s += piece
	}
	return s
}

func TestP3_8Pieces(t *testing.T) {
	x := mixer(7)
	for range 150 {
		s := x.stream(1 + x.below(12))
		whole := text.NewReader()
		fed(t, whole, s)
		want, left := drained(t, whole, s)
		for _, most := range []int{1, 2, 9, 200} {
			r := text.NewReader()
			var got []line
			held := ""
			for rest := s; rest != ""; {
				n := min(len(rest), 1+x.below(most))
				fed(t, r, rest[:n])
				held += rest[:n]
				rest = rest[n:]
				for range x.below(3) {
					var a told
					if a, held = next(t, r, held); a.at == 1 {
						got = append(got, line{a.kind, a.l})
					}
				}
			}
			more, end := drained(t, r, held)
			got = append(got, more...)
			if !slices.EqualFunc(got, want, line.same) || end != left {
				t.Fatalf("%q in pieces: %v and %q, not %v and %q", s, got, end, want, left)
			}
		}
	}
}

// Lines behind one another all come out, and none but them where what stands between cannot be a part of one.
func TestP3_8AllLines(t *testing.T) {
	x := mixer(8)
	for range 100 {
		s := ""
		var want []line
		for range x.below(20) {
			want = append(want, line{x.kind(), x.fields()})
			s += x.of("zB.1", x.below(3)) + laid(want[len(want)-1].kind, want[len(want)-1].l)
		}
		r := text.NewReader()
		fed(t, r, s)
		if got, rest := drained(t, r, s); !slices.EqualFunc(got, want, line.same) || rest != "" {
			t.Fatalf("%q: %v", s, got)
		}
	}
}

// As many calls as there are bytes, and one more, come to an end, for whatever bytes.
func TestP3_9Ends(t *testing.T) {
	x := mixer(9)
	for range 3000 {
		s := x.of("8=BRS.1\x019=5\x0135=0\x01z", x.below(60))
		r := text.NewReader()
		fed(t, r, s)
		drained(t, r, s)
	}
	for _, unit := range []string{"8", "8=", "=8", "z", "8=BRS.1\x01", "8=BRS.1\x019=", "8=BRS.1\x019=99", "8=BRS.1\x019=9999\x01", "8=BRS.1\x019=5\x01", example, "8=BRS.1\x019=5\x01xx=00\x0110=000\x01"} {
		s := strings.Repeat(unit, 2000/len(unit))
		r := text.NewReader()
		fed(t, r, s)
		drained(t, r, s)
	}
	all := strings.Repeat("8=", api.MaxHeld/2)
	r := text.NewReader()
	fed(t, r, all)
	for calls := 0; ; calls++ {
		if calls > api.MaxHeld {
			t.Fatal("no end")
		}
		if _, _, ok, why := r.Next(); !ok && why == api.OK {
			break
		}
	}
}

func TestP3_9WholeAtTheBeginning(t *testing.T) {
	x := mixer(10)
	for range 500 {
		want := line{x.kind(), x.fields()}
		s := laid(want.kind, want.l) + x.stream(2)
		r := text.NewReader()
		fed(t, r, s)
		if got, _ := next(t, r, s); got.at != 1 || !want.same(line{got.kind, got.l}) {
			t.Fatalf("%q: %v", s, got)
		}
	}
}
