package venue_test

import (
	"bytes"
	"slices"
	"testing"

	"bourse/api"
	"bourse/message"
	. "bourse/sample"
	"bourse/venue"
)

// sameEvents ends a test where lines are not those of just these events.
func sameEvents(t *testing.T, lines []byte, want []api.Event) {
	t.Helper()
	var got []api.Event
	for len(lines) > 0 {
		e, n, why := message.ReadEvent(lines)
		Same(t, "ReadEvent", why, api.OK)
		got, lines = append(got, e), lines[n:]
	}
	SameList(t, "the lines' events", got, want)
}

// withNames is frames, between which engines are named that there are.
func withNames(mix *Mixer, frames [][]byte) [][]byte {
	var l [][]byte
	for _, b := range frames {
		for range mix.Below(3) {
			l = append(l, named(uint64(1+mix.Below(3))))
		}
		l = append(l, b)
	}
	return append(l, named(uint64(1+mix.Below(3))))
}

// namesOne tells whether a frame names an engine that there is.
func namesOne(b []byte) bool {
	return slices.ContainsFunc(Kinds(), func(kind int) bool { return bytes.Equal(b, named(uint64(kind))) })
}

// ran feeds frames to a new venue: it, and all that it tells.
func ran(t *testing.T, c api.Config, kind int, frames [][]byte) (*venue.Venue, []byte) {
	t.Helper()
	v := made(t, c, kind)
	return v, v.Feed(slices.Concat(frames...))
}

func TestP17_7ListBook(t *testing.T) {
	each(t, func(t *testing.T, kind int) {
		told := map[int]int{}
		shapes(t, 700, 500, true, func(t *testing.T, mix *Mixer, c api.Config, frames [][]byte) {
			v, m := made(t, c, kind), &model{book: api.Book{Config: c}, engine: kind}
			for _, b := range frames {
				want := m.read(t, b)
				SameBytes(t, "what is told", v.Feed(b), framedAll(want...))
				keeps(t, v, m.book, m.engine)
				for _, e := range want {
					told[e.Kind]++
				}
			}
		})
		// A stream in which hardly anything is taken would hold nothing to account.
		for _, event := range []int{api.EvAck, api.EvReject, api.EvTrade, api.EvCancel, api.EvRefresh} {
			Same(t, "whether such events are told often", told[event] > 150, true)
		}
	})
}

func TestP17_7WhateverBytes(t *testing.T) {
	shapes(t, 710, 40, true, func(t *testing.T, mix *Mixer, c api.Config, frames [][]byte) {
		b := slices.Concat(frames...)
		for range 20 {
			// Beyond the place at which bytes are lost or come in between, hardly a frame stands where it should.
			at := mix.Below(len(b))
			b = slices.Delete(b, at, min(len(b), at+mix.Below(20)))
			for range mix.Below(5) {
				b = slices.Insert(b, mix.Below(len(b)), byte(mix.Next()))
			}
			for _, kind := range Kinds() {
				m := &model{book: api.Book{Config: c}}
				got, why := venue.Run(c, kind, b)
				Same(t, "Run", why, api.OK)
				SameBytes(t, "what is told", got, m.all(t, b))
			}
		}
	})
}

func TestP17_7AtTheEnds(t *testing.T) {
	// A book of as many orders as there may be, in every engine and from each to each.
	full := api.Book{Config: api.Config{Capacity: api.MaxOrders}, High: api.MaxOrders}
	for i := range api.MaxOrders {
		full.Sells = append(full.Sells, api.Resting{ID: uint64(i + 1), Type: api.Limit, Price: 5 + i/3, Visible: 2})
	}
	var b []byte
	for n := range uint64(9) {
		b = slices.Concat(b, named(1+n%3), said(Buy(5000+2*n, 1, 1)), said(Order(5001+2*n, api.Buy, api.IOC, 9, 3)), named(1+n/3), said(Cancel(4000+n)))
	}
	each(t, func(t *testing.T, kind int) {
		v, m := opened(t, full, kind), &model{book: full, engine: kind}
		SameBytes(t, "what is told", v.Feed(b), m.all(t, b))
		keeps(t, v, m.book, m.engine)
		// All that is there at once: thousands of events of one frame.
		all := said(Order(9000, api.Buy, api.Market, 0, 1<<20))
		SameBytes(t, "what is told", v.Feed(all), m.all(t, all))
		keeps(t, v, m.book, m.engine)
	})
}

func TestP17_8SwapsCantBeSeen(t *testing.T) {
	shapes(t, 800, 300, false, func(t *testing.T, mix *Mixer, c api.Config, frames [][]byte) {
		v, want := ran(t, c, api.List, frames)
		for _, kind := range Kinds() {
			w, got := ran(t, c, kind, frames)
			SameBytes(t, "what is told without a swap", got, want)
			keeps(t, w, v.Book(), kind)
			more := withNames(mix, frames)
			w, got = ran(t, c, kind, more)
			SameBytes(t, "what is told with swaps", got, want)
			keeps(t, w, v.Book(), int(more[len(more)-1][4]))
			// Some of them are taken out again.
			less := slices.DeleteFunc(more, func(b []byte) bool { return namesOne(b) && mix.Below(2) == 0 })
			w, got = ran(t, c, kind, less)
			SameBytes(t, "what is told with fewer of them", got, want)
			keeps(t, w, v.Book(), w.Engine())
		}
	})
}

func TestP17_8SwapsBetweenAnyTwo(t *testing.T) {
	frames := [][]byte{said(Peaked(Sell(1, 9, 10), 4)), said(By(Sell(2, 9, 3), 5)), said(Buy(3, 9, 5)), make([]byte, 64), said(Replace(1, 4, 10, 6)), said(By(Buy(5, 11, 8), 5)), said(Cancel(5)), said(Buy(5, 1, 1))}
	c := api.Config{Capacity: 3, Meet: api.MeetOldest}
	v, want := ran(t, c, api.List, frames)
	for _, from := range Kinds() {
		for _, to := range Kinds() {
			for at := range len(frames) + 1 {
				w, got := ran(t, c, from, slices.Insert(slices.Clone(frames), at, named(uint64(to))))
				SameBytes(t, "what is told with a swap", got, want)
				keeps(t, w, v.Book(), to)
			}
		}
	}
}

// spans is how much a model tells of the first so many frames, from none to all.
func spans(t *testing.T, c api.Config, frames [][]byte) []int {
	t.Helper()
	m := &model{book: api.Book{Config: c}}
	l := []int{0}
	for i, b := range frames {
		l = append(l, l[i]+64*len(m.read(t, b)))
	}
	return l
}

func TestP17_9InPieces(t *testing.T) {
	shapes(t, 900, 120, true, func(t *testing.T, mix *Mixer, c api.Config, frames [][]byte) {
		b := append(slices.Concat(frames...), make([]byte, mix.Below(64))...)
		want, why := venue.Run(c, api.Tree, b)
		Same(t, "Run", why, api.OK)
		known := spans(t, c, frames)
		for _, most := range []int{1, 3, 63, 64, 65, 127, 200, 3000} {
			v := made(t, c, Pick(mix, Kinds()...))
			var got []byte
			for came := 0; came < len(b); {
				// A piece may be empty, too.
				n := min(len(b)-came, mix.Below(most+1))
				got = append(got, v.Feed(b[came:came+n])...)
				came += n
				// It is told as soon as a frame is whole, and not ahead of that.
				Same(t, "how much is told by now", len(got), known[came/64])
			}
			SameBytes(t, "what is told of pieces", append(got, v.Close()...), want)
		}
	})
}

func TestP17_9EachByteByItself(t *testing.T) {
	b := slices.Concat(saidAll(Sell(1, 10, 5), Buy(2, 11, 2)), named(2), named(9), said(Cancel(1)))
	want := [][]api.Event{{Acked(Sell(1, 10, 5))}, {Acked(Buy(2, 11, 2)), Traded(2, 1, api.Buy, 10, 2)}, nil, {refused(api.ErrEngine)}, {Ended(1, 3, api.ByOwner)}}
	each(t, func(t *testing.T, kind int) {
		v := made(t, small(), kind)
		for i := range b {
			if i%64 == 63 {
				feeds(t, v, b[i:i+1], want[i/64]...)
			} else {
				feeds(t, v, b[i:i+1])
			}
		}
		closes(t, v)
	})
}

// unnumbered is the events whose frames bytes are, without their numbers.
func unnumbered(t *testing.T, b []byte) []api.Event {
	t.Helper()
	var l []api.Event
	for _, e := range events(t, b) {
		e.Seq = 0
		l = append(l, e)
	}
	return l
}

func TestP17_10EachFrameByItself(t *testing.T) {
	shapes(t, 1000, 80, true, func(t *testing.T, mix *Mixer, c api.Config, frames [][]byte) {
		bad := spoilt()
		kind := Pick(mix, Kinds()...)
		_, all := ran(t, c, kind, frames)
		for range 10 {
			at := mix.Below(len(frames) + 1)
			v, ahead := ran(t, c, kind, frames[:at])
			x, engine := v.Book(), v.Engine()
			Same(t, "how much is told of a spoilt frame", len(v.Feed(Pick(mix, bad...))), 64)
			// Nothing of the book but Seq.
			x.Seq++
			keeps(t, v, x, engine)
			rest := slices.Concat(frames[at:]...)
			behind := v.Feed(rest)
			// Without it, all else is told as it is with it, but for its number.
			SameList(t, "what is told of the others", slices.Concat(unnumbered(t, ahead), unnumbered(t, behind)), unnumbered(t, all))
			// With another spoilt one in its place, not even the numbers are others.
			for range 4 {
				w, _ := ran(t, c, kind, frames[:at])
				w.Feed(Pick(mix, bad...))
				SameBytes(t, "what is told behind another spoilt frame", w.Feed(rest), behind)
				keeps(t, w, v.Book(), v.Engine())
			}
		}
	})
}

func TestP17_10SpoiltOnTheWay(t *testing.T) {
	// A frame whose bytes were turned on the way is refused; those about it are read.
	frames := [][]byte{said(Sell(1, 10, 5)), said(Buy(2, 9, 5)), said(Cancel(1))}
	each(t, func(t *testing.T, kind int) {
		for at := range 64 {
			want := api.ErrSum
			if at == 0 || at == 1 || at == 3 {
				want = api.ErrMagic
			}
			v := made(t, small(), kind)
			feeds(t, v, slices.Concat(frames[0], turned(frames[1], at), frames[2]), Acked(Sell(1, 10, 5)), refused(want), Ended(1, 5, api.ByOwner))
			keeps(t, v, api.Book{Config: small(), High: 1, Seq: 3}, kind)
		}
	})
}

func TestP17_11GoesOn(t *testing.T) {
	shapes(t, 1100, 200, true, func(t *testing.T, mix *Mixer, c api.Config, frames [][]byte) {
		v := made(t, c, Pick(mix, Kinds()...))
		var told [][]byte
		var books []api.Book
		for _, b := range frames {
			books = append(books, v.Book())
			told = append(told, v.Feed(b))
		}
		for at := mix.Below(20); at < len(frames); at += 1 + mix.Below(40) {
			for _, kind := range Kinds() {
				w := opened(t, books[at], kind)
				for i, b := range frames[at:] {
					Same(t, "whether it keeps the same", SameBook(w.Book(), books[at+i]), true)
					SameBytes(t, "what another one tells", w.Feed(b), told[at+i])
				}
				Same(t, "whether it keeps the same at the end", SameBook(w.Book(), v.Book()), true)
			}
		}
	})
}

func TestP17_11OfItsOwnFrames(t *testing.T) {
	// One venue goes on, and the one that was opened from its book stays as it was; and the other way about.
	each(t, func(t *testing.T, kind int) {
		v := made(t, small(), kind)
		feeds(t, v, said(Sell(1, 10, 5)), Acked(Sell(1, 10, 5)))
		x := v.Book()
		for _, other := range Kinds() {
			w := opened(t, x, other)
			b := said(Buy(2, 10, 7))
			tells(t, w.Feed(b), 1, Acked(Buy(2, 10, 7)), Traded(2, 1, api.Buy, 10, 5))
			keeps(t, v, x, kind)
		}
		w := opened(t, x, kind)
		tells(t, v.Feed(said(Cancel(1))), 1, Ended(1, 5, api.ByOwner))
		keeps(t, w, x, kind)
	})
}
