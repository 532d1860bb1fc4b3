package venue_test

import (
	"bytes"
	"math"
	"slices"
	"strconv"
	"strings"
	"testing"

	"bourse/api"
	. "bourse/sample"
	"bourse/venue"
)

// small is the config of the chapter's examples.
func small() api.Config { return api.Config{Capacity: 4} }

// none ends a test where there is a venue beside an error, or another error.
func none(t *testing.T, what string, want api.Errno) func(v *venue.Venue, why api.Errno) {
	return func(v *venue.Venue, why api.Errno) {
		t.Helper()
		if v != nil || why != want {
			t.Fatalf("%s: got %v, %v, wanted %v", what, v, why, want)
		}
	}
}

func TestP17_1New(t *testing.T) {
	for c, can := range Configs() {
		for _, kind := range Kinds() {
			if can {
				v := made(t, c, kind)
				keeps(t, v, api.Book{Config: c}, kind)
				closes(t, v)
				continue
			}
			none(t, "New of a config that can't be", api.ErrArg)(venue.New(c, kind))
		}
		for _, kind := range NoKinds() {
			none(t, "New in no engine", api.ErrEngine)(venue.New(c, kind))
		}
	}
}

func TestP17_1Open(t *testing.T) {
	for _, kind := range Kinds() {
		v := opened(t, Fair(), kind)
		feeds(t, v, said(Cancel(3)), Ended(3, 5, api.ByOwner))
		opened(t, api.Book{Config: small(), High: 7, Seq: 1 << 40}, kind)
		for _, x := range append(Spoilt(), api.Book{}) {
			none(t, "Open of a book that can't be", api.ErrBook)(venue.Open(x, kind))
		}
		for c, can := range Configs() {
			if !can {
				none(t, "Open of a config that can't be", api.ErrBook)(venue.Open(api.Book{Config: c}, kind))
			}
		}
	}
	for _, kind := range NoKinds() {
		none(t, "Open in no engine", api.ErrEngine)(venue.Open(Fair(), kind))
		none(t, "Open of no book in no engine", api.ErrEngine)(venue.Open(api.Book{}, kind))
	}
}

func TestP17_1OpenSharesNothing(t *testing.T) {
	each(t, func(t *testing.T, kind int) {
		x := Fair()
		x.Buys = append(make([]api.Resting, 0, 9), x.Buys...)
		v := opened(t, x, kind)
		v.Feed(said(Sell(10, 10, 6)))
		Same(t, "whether what was handed in is as it was", SameBook(x, Fair()), true)
		SameList(t, "its spare room", x.Buys[2:9], make([]api.Resting, 7))
		v = opened(t, x, kind)
		Spoil(x.Buys, api.Resting{ID: 77})
		Spoil(x.Sells, api.Resting{ID: 77})
		keeps(t, v, Fair(), kind)
	})
}

func TestP17_2Frames(t *testing.T) {
	// The chapter's first three examples, and the book and the engine behind each frame.
	each(t, func(t *testing.T, kind int) {
		v := made(t, small(), kind)
		x := api.Book{Config: small(), High: 1, Seq: 1, Sells: []api.Resting{{ID: 1, Type: api.Limit, Price: 10, Visible: 5}}}
		order := Sell(1, 10, 5)
		feeds(t, v, said(order), Acked(order))
		keeps(t, v, x, kind)
		for _, step := range []struct {
			b    []byte
			want api.Event
		}{
			{said(order), Rejected(order, api.ErrID)},
			{make([]byte, 64), refused(api.ErrMagic)},
			{named(9), refused(api.ErrEngine)},
			{laid(65), refused(api.ErrMessage)},
			{laid(2, 1, 1), refused(api.ErrField)},
			{said(Cancel(99)), Rejected(Cancel(99), api.ErrTarget)},
			{said(Replace(99, 2, 1, 1)), Rejected(Replace(99, 2, 1, 1), api.ErrTarget)},
		} {
			feeds(t, v, step.b, step.want)
			x.Seq++
			keeps(t, v, x, kind)
		}
		feeds(t, v, named(2))
		keeps(t, v, x, api.Ladder)
		feeds(t, v, nil)
		feeds(t, v, []byte{1, 2, 3})
		closes(t, v, refused(api.ErrShort))
		x.Seq++
		keeps(t, v, x, api.Ladder)
	})
}

func TestP17_2Bytes(t *testing.T) {
	// A frame that is told, byte by byte: EvReject, Seq 2, ID 1, ErrID.
	v := made(t, small(), api.Tree)
	v.Feed(said(Sell(1, 10, 5)))
	want := slices.Concat([]byte{0x42, 0x46, 66, 0, 2, 0, 0, 0, 0, 0, 0, 0, 1, 0, 0, 0, 0, 0, 0, 0}, make([]byte, 16), []byte{0, 0, 0, 0, 97, 0, 0, 0}, make([]byte, 16))
	SameBytes(t, "what is told", v.Feed(said(Sell(1, 10, 5))), summed(want))
}

func TestP17_2EveryEvent(t *testing.T) {
	each(t, func(t *testing.T, kind int) {
		v := made(t, api.Config{Capacity: 4, Meet: api.MeetNewest}, kind)
		iceberg := By(Peaked(Sell(1, 9, 10), 4), 7)
		feeds(t, v, said(iceberg), Acked(iceberg))
		feeds(t, v, said(Buy(2, 11, 9)), Acked(Buy(2, 11, 9)),
			Traded(2, 1, api.Buy, 9, 4), Refreshed(1, 9, 4), Traded(2, 1, api.Buy, 9, 4), Refreshed(1, 9, 2), Traded(2, 1, api.Buy, 9, 1))
		own := By(Order(3, api.Buy, api.IOC, 9, 1), 7)
		feeds(t, v, said(own), Acked(own), Ended(3, 1, api.ByMeet))
		post := Order(4, api.Sell, api.PostOnly, 12, math.MaxUint32)
		feeds(t, v, said(By(post, math.MaxUint32)), Acked(By(post, math.MaxUint32)))
		all := Order(5, api.Buy, api.FOK, 9, 2)
		feeds(t, v, said(all), Acked(all), Ended(5, 2, api.ByFill))
		feeds(t, v, said(Replace(1, 6, 10, 3)), Ended(1, 1, api.ByReplace), Acked(By(Sell(6, 10, 3), 7)))
		market := Order(7, api.Buy, api.Market, 0, 1<<32-1)
		feeds(t, v, said(market), Acked(market), Traded(7, 6, api.Buy, 10, 3), Traded(7, 4, api.Buy, 12, math.MaxUint32-3))
		feeds(t, v, said(Cancel(4)), Ended(4, 3, api.ByOwner))
		feeds(t, v, said(Order(8, api.Sell, api.IOC, 0, 1)), Acked(Order(8, api.Sell, api.IOC, 0, 1)), Ended(8, 1, api.ByRest))
		keeps(t, v, api.Book{Config: api.Config{Capacity: 4, Meet: api.MeetNewest}, High: 8, Seq: v.Book().Seq}, kind)
	})
}

func TestP17_2ManyFramesAtOnce(t *testing.T) {
	// The first example of the whole, and the third.
	for _, b := range [][]byte{
		saidAll(Sell(1, 10, 5), Sell(2, 10, 5), Buy(3, 11, 7)),
		slices.Concat(said(Sell(1, 10, 5)), named(2), said(Sell(2, 10, 5)), named(1), named(3), said(Buy(3, 11, 7)), named(2)),
	} {
		each(t, func(t *testing.T, kind int) {
			v := made(t, small(), kind)
			feeds(t, v, b, Acked(Sell(1, 10, 5)), Acked(Sell(2, 10, 5)), Acked(Buy(3, 11, 7)), Traded(3, 1, api.Buy, 10, 5), Traded(3, 2, api.Buy, 10, 2))
			Same(t, "how many sells are left", len(v.Book().Sells), 1)
		})
	}
}

func TestP17_2Spoilt(t *testing.T) {
	// A frame in which several things are wrong is refused for the first of them: spoils has such frames, too.
	each(t, func(t *testing.T, kind int) {
		for why, frames := range spoils() {
			for _, b := range frames {
				Same(t, "a frame's bytes", len(b), 64)
				v := opened(t, Fair(), kind)
				feeds(t, v, b, refused(why))
				x := Fair()
				x.Seq++
				keeps(t, v, x, kind)
			}
		}
	})
}

func TestP17_2Engines(t *testing.T) {
	each(t, func(t *testing.T, kind int) {
		v := opened(t, Fair(), kind)
		x := Fair()
		for engine := range uint64(256) {
			if engine >= 1 && engine <= 3 {
				feeds(t, v, named(engine))
				kind = int(engine)
			} else {
				feeds(t, v, named(engine), refused(api.ErrEngine))
				x.Seq++
			}
			keeps(t, v, x, kind)
		}
		// Beyond that it is no engine's frame.
		for _, engine := range []uint64{256, 257, 1<<32 + 1, math.MaxUint64} {
			feeds(t, v, named(engine), refused(api.ErrField))
		}
		Same(t, "Engine", v.Engine(), api.List)
	})
}

func TestP17_2NumbersGoRound(t *testing.T) {
	each(t, func(t *testing.T, kind int) {
		x := Fair()
		x.Seq = math.MaxUint64 - 2
		v := opened(t, x, kind)
		b := slices.Concat(make([]byte, 64), named(0), named(uint64(1+kind%3)), laid(65), said(Cancel(0)), []byte{1})
		tells(t, v.Feed(b), x.Seq, refused(api.ErrMagic), refused(api.ErrEngine), refused(api.ErrMessage), Rejected(Cancel(0), api.ErrTarget))
		tells(t, v.Close(), 1, refused(api.ErrShort))
		x.Seq = 2
		keeps(t, v, x, 1+kind%3)
		x.High = math.MaxUint64
		feeds(t, opened(t, x, kind), said(Buy(math.MaxUint64, 1, 1)), Rejected(Buy(math.MaxUint64, 1, 1), api.ErrID))
	})
}

func TestP17_2MemoryIsItsOwn(t *testing.T) {
	each(t, func(t *testing.T, kind int) {
		v := made(t, small(), kind)
		all := slices.Concat(said(Sell(1, 10, 5)), said(Buy(2, 10, 7)))
		room := append(bytes.Clone(all[:100]), "spare room"...)
		piece := room[:100]
		told := v.Feed(piece)
		tells(t, told, 0, Acked(Sell(1, 10, 5)))
		SameBytes(t, "what was handed in", room, append(bytes.Clone(all[:100]), "spare room"...))
		// What waits is no part of what was handed in, nor of what was answered.
		Spoil(room, 0xee)
		Spoil(told, 0xee)
		told = v.Feed(all[100:])
		tells(t, told, 1, Acked(Buy(2, 10, 7)), Traded(2, 1, api.Buy, 10, 5))
		x := v.Book()
		Spoil(told, 0xee)
		Spoil(x.Buys, api.Resting{ID: 77})
		keeps(t, v, api.Book{Config: small(), High: 2, Seq: 3, Buys: []api.Resting{{ID: 2, Type: api.Limit, Price: 10, Visible: 2}}}, kind)
	})
}

func TestP17_3Close(t *testing.T) {
	each(t, func(t *testing.T, kind int) {
		v := made(t, small(), kind)
		closes(t, v)
		x := api.Book{Config: small()}
		order := said(Buy(1, 10, 5))
		for n := range 64 {
			feeds(t, v, order[:n])
			keeps(t, v, x, kind)
			if n > 0 {
				closes(t, v, refused(api.ErrShort))
				x.Seq++
			}
			keeps(t, v, x, kind)
			closes(t, v)
		}
		// The next byte begins a frame: what would have ended the last one does not.
		feeds(t, v, order[:40])
		closes(t, v, refused(api.ErrShort))
		feeds(t, v, order[40:])
		feeds(t, v, order[:40], refused(api.ErrMagic))
		closes(t, v)
		feeds(t, v, order, Acked(Buy(1, 10, 5)))
		closes(t, v)
	})
}

func TestP17_3CloseBehindFrames(t *testing.T) {
	each(t, func(t *testing.T, kind int) {
		v := made(t, small(), kind)
		feeds(t, v, append(said(Buy(1, 10, 5)), 0x42, 0x46), Acked(Buy(1, 10, 5)))
		feeds(t, v, nil)
		closes(t, v, refused(api.ErrShort))
		closes(t, v)
		feeds(t, v, said(Cancel(1)), Ended(1, 5, api.ByOwner))
		closes(t, v)
	})
}

func TestP17_4Asked(t *testing.T) {
	each(t, func(t *testing.T, kind int) {
		v := made(t, small(), kind)
		feeds(t, v, said(By(Peaked(Sell(3, 12, 9), 4), 5)), Acked(By(Peaked(Sell(3, 12, 9), 4), 5)))
		post := Order(5, api.Buy, api.PostOnly, 11, 2)
		feeds(t, v, append(said(post), 1, 2, 3), Acked(post))
		want := api.Book{Config: small(), High: 5, Seq: 2,
			Buys:  []api.Resting{{ID: 5, Type: api.PostOnly, Price: 11, Visible: 2}},
			Sells: []api.Resting{{ID: 3, Member: 5, Type: api.Limit, Price: 12, Visible: 4, Hidden: 5, Peak: 4}},
		}
		for range 3 {
			x := v.Book()
			keeps(t, v, want, kind)
			Spoil(x.Buys, api.Resting{ID: 77})
			Spoil(x.Sells, api.Resting{ID: 77})
		}
		// The bytes that wait do so still.
		closes(t, v, refused(api.ErrShort))
		// The ID of an order that is refused was not taken.
		feeds(t, v, said(Buy(9, api.Ticks, 1)), Rejected(Buy(9, api.Ticks, 1), api.ErrPrice))
		want.Seq = 4
		keeps(t, v, want, kind)
	})
}

func TestP17_4EngineStays(t *testing.T) {
	each(t, func(t *testing.T, kind int) {
		v := made(t, small(), kind)
		for _, b := range append(spoilt(), named(9), said(Buy(1, 10, 5)), named(uint64(kind))) {
			v.Feed(b)
			Same(t, "Engine", v.Engine(), kind)
		}
		v.Feed(named(2)[:63])
		Same(t, "Engine ahead of a frame's last byte", v.Engine(), kind)
		v.Feed(named(2)[63:])
		Same(t, "Engine behind it", v.Engine(), api.Ladder)
	})
}

func TestP17_5Run(t *testing.T) {
	b := slices.Concat(saidAll(Sell(1, 10, 5), Buy(2, 11, 2)), named(9), named(3), []byte{7})
	each(t, func(t *testing.T, kind int) {
		for range 2 {
			got, why := venue.Run(small(), kind, b)
			Same(t, "Run", why, api.OK)
			tells(t, got, 0, Acked(Sell(1, 10, 5)), Acked(Buy(2, 11, 2)), Traded(2, 1, api.Buy, 10, 2), refused(api.ErrEngine), refused(api.ErrShort))
		}
		for _, nothing := range [][]byte{nil, {}, named(1)} {
			got, why := venue.Run(small(), kind, nothing)
			Same(t, "Run of nothing", why, api.OK)
			tells(t, got, 0)
		}
		got, why := venue.Run(small(), kind, b[:5])
		Same(t, "Run of no whole frame", why, api.OK)
		tells(t, got, 0, refused(api.ErrShort))
	})
	for c, can := range Configs() {
		for _, kind := range append(NoKinds(), Kinds()...) {
			v, want := venue.New(c, kind)
			got, why := venue.Run(c, kind, b)
			Same(t, "Run", why, want)
			Same(t, "whether Run tells anything", len(got) > 0, v != nil)
			Same(t, "whether Run answers OK", why == api.OK, can && slices.Contains(Kinds(), kind))
		}
	}
}

func TestP17_5RunChangesNothing(t *testing.T) {
	b := append(said(Sell(1, 10, 5)), 7, 8)
	room := append(bytes.Clone(b), "spare room"...)
	got, _ := venue.Run(small(), api.Tree, room[:66])
	SameBytes(t, "what was handed in", room, append(bytes.Clone(b), "spare room"...))
	Spoil(room, 0xee)
	tells(t, got, 0, Acked(Sell(1, 10, 5)), refused(api.ErrShort))
}

// lined is a line of the kind 8, by its fields.
func lined(fields ...string) string {
	body := "35=8\x01" + strings.Join(fields, "\x01") + "\x01"
	line := "8=BRS.1\x019=" + strconv.Itoa(len(body)) + "\x01" + body
	sum := 0
	for _, c := range []byte(line) {
		sum += int(c)
	}
	digits := "00" + strconv.Itoa(sum%256)
	return line + "10=" + digits[len(digits)-3:] + "\x01"
}

func TestP17_6Lines(t *testing.T) {
	ack := By(Peaked(Order(7, api.Sell, api.PostOnly, 100, 5), 2), 3)
	b := framedAll(Numbered(8, Acked(ack), Rejected(Replace(4, 9, 1, 1), api.ErrTarget), Traded(3, 1, api.Buy, 10, 5), Ended(6, 2, api.ByMeet), Refreshed(5, 11, 12))...)
	want := lined("34=9", "150=1", "11=7", "1=3", "54=2", "40=5", "44=100", "38=5", "210=2") +
		lined("34=10", "150=2", "11=9", "41=4", "103=91") +
		lined("34=11", "150=3", "11=3", "37=1", "54=1", "44=10", "38=5") +
		lined("34=12", "150=4", "11=6", "38=2", "378=5") +
		lined("34=13", "150=5", "11=5", "44=11", "38=12")
	got, why := venue.Lines(b)
	Same(t, "Lines", why, api.OK)
	Same(t, "Lines", string(got), want)
	// Numbers need not follow one another, and nothing is kept of the call.
	got, why = venue.Lines(slices.Concat(b[128:192], b[128:192], b[:64]))
	Same(t, "Lines", why, api.OK)
	Same(t, "Lines", string(got), lined("34=11", "150=3", "11=3", "37=1", "54=1", "44=10", "38=5")+lined("34=11", "150=3", "11=3", "37=1", "54=1", "44=10", "38=5")+lined("34=9", "150=1", "11=7", "1=3", "54=2", "40=5", "44=100", "38=5", "210=2"))
	for _, nothing := range [][]byte{nil, {}} {
		got, why = venue.Lines(nothing)
		Same(t, "Lines of nothing", why, api.OK)
		Same(t, "Lines of nothing", string(got), "")
	}
}

func TestP17_6LinesRefused(t *testing.T) {
	good := framed(Numbered(0, Traded(3, 1, api.Buy, 10, 5))[0])
	magic, sum := make([]byte, 64), turned(good, 20)
	input, field := said(Buy(1, 10, 5)), laid(66, 1, 1, 1, 1)
	for _, test := range []struct {
		want  api.Errno
		parts [][]byte
	}{
		{api.ErrMagic, [][]byte{magic}},
		{api.ErrSum, [][]byte{sum}},
		{api.ErrMessage, [][]byte{input}},
		{api.ErrMessage, [][]byte{named(1)}},
		{api.ErrMessage, [][]byte{laid(64)}},
		{api.ErrMessage, [][]byte{laid(70)}},
		{api.ErrField, [][]byte{field}},
		{api.ErrField, [][]byte{laid(67, 9, 3, 1, 1<<40, 10, 5)}},
		{api.ErrShort, [][]byte{{1}}},
		{api.ErrShort, [][]byte{good[:63]}},
		{api.ErrShort, [][]byte{good, good, good[:1]}},
		// The first frame's counts, whichever of the two it is that has it.
		{api.ErrMagic, [][]byte{good, magic, sum, input}},
		{api.ErrSum, [][]byte{good, sum, magic}},
		{api.ErrMessage, [][]byte{good, input, magic, good[:9]}},
		{api.ErrField, [][]byte{field, sum, input}},
		{api.ErrMessage, [][]byte{input, good[:9]}},
		{api.ErrSum, [][]byte{turned(input, 60), input}},
		{api.ErrMagic, [][]byte{good, summed(turned(input, 3)), field}},
	} {
		got, why := venue.Lines(slices.Concat(test.parts...))
		Same(t, "Lines", why, test.want)
		Same(t, "how many bytes there are beside an error", len(got), 0)
	}
}

func TestP17_6LinesOfWhatIsTold(t *testing.T) {
	shapes(t, 600, 60, true, func(t *testing.T, mix *Mixer, c api.Config, frames [][]byte) {
		b, why := venue.Run(c, api.Ladder, slices.Concat(frames...))
		Same(t, "Run", why, api.OK)
		before := bytes.Clone(b)
		lines, why := venue.Lines(b)
		Same(t, "Lines", why, api.OK)
		SameBytes(t, "what was handed in", b, before)
		Same(t, "how many lines there are", strings.Count(string(lines), "8=BRS.1\x01"), len(b)/64)
		sameEvents(t, lines, events(t, b))
	})
}

// A Venue that neither New nor Open made has no book: none of its calls panics.
func TestP17_4NotMade(t *testing.T) {
	var v venue.Venue
	for _, b := range [][]byte{nil, {1}, said(Buy(1, 10, 5)), named(1), make([]byte, 200)} {
		v.Feed(b)
		v.Close()
		v.Book()
		v.Engine()
	}
}
