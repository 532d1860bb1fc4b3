package message_test

import (
	"math"
	"math/big"
	"slices"
	"testing"

	"bourse/api"
	"bourse/message"
)

func book(c api.Command) api.Input { return api.Input{Kind: api.ToBook, Command: c} }

func TestP4_1Examples(t *testing.T) {
	i := book(api.Command{Kind: api.New, ID: 7, Member: 3, Side: 1, Type: 1, Price: 100, Qty: 5})
	f, line, why := told(t, rows[0], thing{input: i})
	if why != api.OK || f != (api.Frame{Kind: 1, Words: [7]uint64{7, 0, 3 + 1<<32 + 1<<40, 100, 5, 0, 0}}) {
		t.Error(f, why)
	}
	if want := laid("D", "11=7", "1=3", "54=1", "40=1", "44=100", "38=5", "210=0"); line != want {
		t.Errorf("%q, wanted %q", line, want)
	}
	f, line, why = told(t, rows[1], thing{input: book(api.Command{Kind: api.Cancel, Target: 7})})
	if why != api.OK || f != (api.Frame{Kind: 2, Words: [7]uint64{0, 7}}) || line != laid("F", "41=7") {
		t.Errorf("%v %q %v", f, line, why)
	}
	e := api.Event{Kind: api.EvTrade, Seq: 9, ID: 3, Other: 1, Side: 1, Price: 10, Qty: 5}
	f, line, why = told(t, rows[6], thing{event: e})
	if why != api.OK || f != (api.Frame{Kind: 67, Words: [7]uint64{9, 3, 1, 1 << 32, 10, 5, 0}}) {
		t.Error(f, why)
	}
	if want := laid("8", "34=9", "150=3", "11=3", "37=1", "54=1", "44=10", "38=5"); line != want {
		t.Errorf("%q, wanted %q", line, want)
	}
	for _, c := range []struct {
		i    api.Input
		want api.Errno
	}{
		{book(api.Command{Kind: api.Cancel, Target: 7, ID: 1}), api.ErrField},
		{api.Input{Kind: 3}, api.ErrMessage},
		{book(api.Command{Kind: 9}), api.ErrMessage},
		{book(api.Command{Kind: api.New, Price: -1}), api.ErrField},
		{book(api.Command{Kind: api.New, Price: 1 << 32}), api.ErrField},
		{book(api.Command{Kind: api.New, Price: 1<<32 - 1}), api.OK},
	} {
		if _, _, why := told(t, rows[0], thing{input: c.i}); why != c.want {
			t.Error(c.i, why)
		}
	}
}

// Whatever can be told is told as the tables have it, in both dresses.
func TestP4_1Told(t *testing.T) {
	x := mixer(1)
	for _, r := range rows {
		things := []thing{r.bare()}
		for range 500 {
			things = append(things, r.any(&x))
		}
		for _, m := range things {
			f, line, why := told(t, r, m)
			if why != api.OK || f != r.framed(m) || line != r.lined(m) {
				t.Fatalf("%+v: %v %q %v", m, f, line, why)
			}
		}
	}
}

// Each field at the edges of its bound, and beyond; each other one at anything but 0.
func TestP4_1Fields(t *testing.T) {
	var edges []*big.Int
	for _, n := range []int64{0, 1, -1, 255, 256, 1 << 16, 1<<32 - 1, 1 << 32, 1<<32 + 1, 1 << 40, 1 << 48, 1<<56 + 1, math.MaxInt64, math.MinInt64, math.MinInt64 + 1, -255, -256, -1 << 32} {
		edges = append(edges, big.NewInt(n))
	}
	edges = append(edges, new(big.Int).SetUint64(1<<63), new(big.Int).SetUint64(math.MaxUint64))
	x := mixer(2)
	tried := 0
	for _, r := range rows {
		for name := range tags {
			for _, n := range edges {
				m := r.any(&x)
				if !m.at(r, name).IsValid() || !m.put(r, name, n) {
					continue
				}
				tried++
				own := slices.Contains(r.names(), name)
				want := api.OK
				if n.Sign() < 0 || own && n.Cmp(bound(name)) > 0 || !own && n.Sign() != 0 {
					want = api.ErrField
				}
				f, line, why := told(t, r, m)
				if why != want {
					t.Errorf("%+v: %v of %s: %v, wanted %v", m, n, name, why, want)
				}
				if why == api.OK && (f != r.framed(m) || line != r.lined(m)) {
					t.Errorf("%+v: %v %q", m, f, line)
				}
			}
		}
	}
	if tried < 1200 {
		t.Error("tried only", tried)
	}
}

// What says nothing is told so ahead of what is wrong with its fields.
func TestP4_1Nothing(t *testing.T) {
	wrong := []int{0, -1, 4, 5, 6, 7, 9, 64, 65, 255, 256, 257, 258, 259, 1<<32 + 1, 1<<40 + 2, math.MinInt64 + 1, math.MinInt64 + 3, math.MaxInt64, math.MinInt64}
	for _, kind := range wrong {
		for _, price := range []int{0, -1, 5} {
			if _, _, why := told(t, rows[0], thing{input: book(api.Command{Kind: kind, Price: price})}); why != api.ErrMessage {
				t.Error("command", kind, why)
			}
			if kind >= 4 && kind <= 5 {
				continue
			}
			if _, _, why := told(t, rows[4], thing{event: api.Event{Kind: kind, Price: price}}); why != api.ErrMessage {
				t.Error("event", kind, why)
			}
		}
	}
	for _, kind := range append(wrong, 3) {
		for _, i := range []api.Input{{Kind: kind}, {Kind: kind, Engine: 1}, {Kind: kind, Engine: -1}, {Kind: kind, Command: api.Command{Kind: 1}}} {
			if _, _, why := told(t, rows[0], thing{input: i}); why != api.ErrMessage {
				t.Error("input", i, why)
			}
		}
	}
	// An engine beside a command, of whatever kind, can't be told; it says something all the same.
	for _, kind := range []int{-1, 1, 2, 3, 4, 9} {
		i := api.Input{Kind: api.ToEngine, Engine: 2, Command: api.Command{Kind: kind}}
		if _, _, why := told(t, rows[3], thing{input: i}); why != api.ErrField {
			t.Error(i, why)
		}
	}
	if _, _, why := told(t, rows[0], thing{input: api.Input{Kind: api.ToBook, Command: api.Command{Kind: 9}, Engine: 1}}); why != api.ErrMessage {
		t.Error(why)
	}
	for kind := range 40 {
		want := api.ErrMessage
		if kind >= 1 && kind <= 5 {
			want = api.OK
		}
		if _, _, why := told(t, rows[4], thing{event: api.Event{Kind: kind}}); why != want {
			t.Error("event", kind, why)
		}
	}
}

// An answer's bytes are new each time, their spare room too.
func TestP4_1Memory(t *testing.T) {
	i := book(api.Command{Kind: api.Cancel, Target: 7})
	a, _ := message.Line(i)
	b, _ := message.Line(i)
	clear(a[:cap(a)])
	if string(b) != laid("F", "41=7") {
		t.Errorf("%q", b)
	}
	e := api.Event{Kind: api.EvCancel, ID: 1}
	a, _ = message.EventLine(e)
	b, _ = message.EventLine(e)
	clear(a[:cap(a)])
	if string(b) != laid("8", "34=0", "150=4", "11=1", "38=0", "378=0") {
		t.Errorf("%q", b)
	}
}

// P4.5: the same error in both dresses, on whatever fields; told looks at that.
func TestP4_5TwoDresses(t *testing.T) {
	x := mixer(3)
	few := func() uint64 {
		return []uint64{0, 0, 0, 1, 2, 3, 4, 255, 256, 1<<32 - 1, 1 << 32, math.MaxUint64}[x.below(12)]
	}
	for range 20000 {
		i := api.Input{Kind: x.below(4), Engine: int(few()), Command: api.Command{Kind: x.below(5), ID: few(), Target: few(), Member: uint32(few()), Side: int(few()), Type: int(few()), Price: int(few()), Qty: few(), Peak: few()}}
		if x.below(2) == 0 {
			i.Engine = 0
		}
		told(t, rows[0], thing{input: i})
		told(t, rows[4], thing{event: api.Event{Kind: x.below(7), Seq: few(), ID: few(), Other: few(), Target: few(), Member: uint32(few()), Side: int(few()), Type: int(few()), Price: int(few()), Qty: few(), Peak: few(), Reason: int(few()), Code: api.Errno(few())}})
	}
}
