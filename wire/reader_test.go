package wire_test

import (
	"iter"
	"slices"
	"testing"

	"bourse/api"
	"bourse/wire"
)

func TestP2_3All(t *testing.T) {
	x := mixer(6)
	for count := range 12 {
		for end := range 64 {
			b := stream(&x, count, end)
			before := slices.Clone(b)
			if got := all(b); !slices.Equal(got, wantedAll(b)) {
				t.Fatalf("%x: %v", b, got)
			}
			if !slices.Equal(b, before) {
				t.Fatal("All changed its bytes")
			}
		}
	}
	if len(all(nil)) != 0 || len(all([]byte{})) != 0 {
		t.Error("of no bytes")
	}
}

func TestP2_3Example(t *testing.T) {
	f := api.Frame{Kind: 1, Words: [api.Words]uint64{258}}
	spoilt := laid(f)
	spoilt[20] ^= 16
	got := all(slices.Concat(laid(f), spoilt, make([]byte, 13)))
	if !slices.Equal(got, []told{{f, api.OK}, {why: api.ErrSum}, {why: api.ErrShort}}) {
		t.Error(got)
	}
}

func TestP2_3StoppedAndAgain(t *testing.T) {
	x := mixer(7)
	b := stream(&x, 9, 5)
	want := wantedAll(b)
	going := wire.All(b)
	for stop := range want {
		given := 0
		going(func(f api.Frame, why api.Errno) bool {
			if given > stop {
				t.Fatal("given behind the stop")
			}
			if want[given] != (told{f, why}) {
				t.Fatal(given, f, why)
			}
			given++
			return given <= stop
		})
		if given != stop+1 {
			t.Fatal("stopped at", stop, "given", given)
		}
	}
	var again []told
	for f, why := range going {
		again = append(again, told{f, why})
	}
	if !slices.Equal(again, want) {
		t.Error("gone through again:", again)
	}
}

// What is changed ahead of the going is seen, what is changed on the way is not.
func TestP2_3AsItWas(t *testing.T) {
	x := mixer(8)
	b := stream(&x, 6, 3)
	going := wire.All(b)
	copy(b, stream(&x, 6, 3))
	want := wantedAll(b)
	var got []told
	for f, why := range going {
		got = append(got, told{f, why})
		clear(b)
	}
	if !slices.Equal(got, want) {
		t.Errorf("wanted %v, got %v", want, got)
	}
	got = nil
	for f, why := range going {
		got = append(got, told{f, why})
	}
	if !slices.Equal(got, wantedAll(b)) {
		t.Error("behind the change:", got)
	}
}

func TestP2_3TwoAtOnce(t *testing.T) {
	x := mixer(9)
	b := stream(&x, 5, 1)
	want := wantedAll(b)
	going := wire.All(b)
	first, stopFirst := iter.Pull2(going)
	defer stopFirst()
	first()
	if !slices.Equal(all(b), want) {
		t.Error("a going within another one")
	}
	for i := 1; i < len(want); i++ {
		if f, why, ok := first(); !ok || want[i] != (told{f, why}) {
			t.Fatal(i, f, why, ok)
		}
	}
	if _, _, ok := first(); ok {
		t.Error("more than there is")
	}
}

// spare is bytes with room behind them whose content would show a change.
func spare(b []byte) []byte {
	return append(slices.Clone(b), 0xa5, 0xa5, 0xa5, 0xa5)[:len(b)]
}

func TestP2_4Example(t *testing.T) {
	f := api.Frame{Kind: 1, Words: [api.Words]uint64{258}}
	b := laid(f)
	r := wire.NewReader()
	r.Feed(b[:40])
	nothing(t, r, 40)
	r.Feed(append(slices.Clone(b[40:]), 7))
	if got, why, ok := r.Next(); got != f || why != api.OK || !ok {
		t.Error(got, why, ok)
	}
	nothing(t, r, 1)
	if r.Close() != api.ErrShort || r.Left() != 0 || r.Close() != api.OK {
		t.Error("the end")
	}
}

// nothing: no whole frame came, and so many bytes are left.
func nothing(t *testing.T, r *wire.Reader, left int) {
	t.Helper()
	if f, why, ok := r.Next(); f != (api.Frame{}) || why != api.OK || ok {
		t.Error("of too few bytes:", f, why, ok)
	}
	if r.Left() != left {
		t.Errorf("left: %d, not %d", r.Left(), left)
	}
}

func TestP2_4Empty(t *testing.T) {
	r := wire.NewReader()
	nothing(t, r, 0)
	r.Feed(nil)
	r.Feed([]byte{})
	nothing(t, r, 0)
	if r.Close() != api.OK {
		t.Error("nothing came, and nothing is missing")
	}
	r.Feed([]byte{1})
	nothing(t, r, 1)
	r.Feed(nil)
	nothing(t, r, 1)
}

func TestP2_4CloseDropsWholeFrames(t *testing.T) {
	x := mixer(10)
	for _, n := range []int{1, 63, 64, 65, 127, 128, 1000} {
		r := wire.NewReader()
		r.Feed(x.bytes(n))
		if r.Left() != n || r.Close() != api.ErrShort {
			t.Error("not read:", n)
		}
		nothing(t, r, 0)
		if r.Close() != api.OK {
			t.Error("dropped, and told again:", n)
		}
		f := x.frame()
		r.Feed(laid(f))
		if got, why, ok := r.Next(); got != f || why != api.OK || !ok || r.Close() != api.OK {
			t.Error("fed again behind Close:", n, got, why, ok)
		}
	}
}

// A reader keeps none of the memory that it is fed, and changes none.
func TestP2_4Memory(t *testing.T) {
	x := mixer(11)
	f, g := x.frame(), x.frame()
	r, other := wire.NewReader(), wire.NewReader()
	piece := spare(slices.Concat(laid(f), laid(g))[:100])
	before := slices.Clone(piece[:cap(piece)])
	r.Feed(piece)
	other.Feed(laid(g))
	if !slices.Equal(piece[:cap(piece)], before) {
		t.Error("what was fed is changed")
	}
	clear(piece[:cap(piece)])
	r.Feed(laid(g)[36:])
	if got, why, _ := r.Next(); got != f || why != api.OK {
		t.Error("first:", got, why)
	}
	if got, why, _ := r.Next(); got != g || why != api.OK {
		t.Error("second:", got, why)
	}
	if other.Left() != 64 || r.Left() != 0 {
		t.Error("readers that know of one another")
	}
	if slices.ContainsFunc(piece[:cap(piece)], func(c byte) bool { return c != 0 }) {
		t.Error("the reader wrote into what was fed")
	}
}

// readAll is what Next tells of bytes that come in pieces, read after every so many pieces, and what Close tells.
func readAll(t *testing.T, x *mixer, b []byte, widest, every int) []told {
	t.Helper()
	r := wire.NewReader()
	var l []told
	came := 0
	read := func() {
		for {
			f, why, ok := r.Next()
			if !ok {
				return
			}
			l = append(l, told{f, why})
			if left := came - 64*len(l); r.Left() != left {
				t.Fatal("left:", r.Left(), "not", left)
			}
		}
	}
	for pieces := 1; came < len(b); pieces++ {
		n := min(x.below(widest+1), len(b)-came)
		r.Feed(b[came : came+n])
		came += n
		if r.Left() != came-64*len(l) {
			t.Fatal("left:", r.Left())
		}
		if pieces%every == 0 {
			read()
		}
	}
	read()
	if why := r.Close(); why != api.OK {
		l = append(l, told{why: why})
	}
	return l
}

func TestP2_7InPieces(t *testing.T) {
	x := mixer(12)
	for range 40 {
		b := stream(&x, x.below(20), x.below(64))
		want := all(b)
		for _, widest := range []int{1, 3, 63, 64, 65, 200, 2000} {
			for _, every := range []int{1, 2, 7, 1 << 30} {
				if got := readAll(t, &x, b, widest, every); !slices.Equal(got, want) {
					t.Fatalf("pieces of up to %d: wanted %v, got %v", widest, want, got)
				}
			}
		}
	}
}

func TestP2_8EachByItself(t *testing.T) {
	x := mixer(13)
	for range 60 {
		b := stream(&x, 8, x.below(64))
		before := all(b)
		kept := x.below(8)
		for i := range b {
			if i/64 != kept && x.below(3) == 0 {
				b[i] ^= byte(x.next())
			}
		}
		if after := all(b); after[kept] != before[kept] || len(after) != len(before) {
			t.Fatalf("frame %d was told as %v, now as %v", kept, before[kept], after[kept])
		}
	}
}
