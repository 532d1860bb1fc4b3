package journal_test

import (
	"bytes"
	"math"
	"slices"
	"testing"

	"bourse/api"
	"bourse/journal"
	. "bourse/sample"
)

// none ends a test where there is a journal beside an error, or another error.
func none(t *testing.T, what string, want api.Errno) func(j *journal.Journal, why api.Errno) {
	return func(j *journal.Journal, why api.Errno) {
		t.Helper()
		if j != nil || why != want {
			t.Fatalf("%s: got %v, %v, wanted %v", what, j, why, want)
		}
	}
}

func TestP24_1New(t *testing.T) {
	for c, can := range Configs() {
		for _, kind := range Kinds() {
			if can {
				made(t, c, kind)
				continue
			}
			none(t, "New of a config that can't be", api.ErrArg)(journal.New(c, kind))
		}
		for _, kind := range NoKinds() {
			none(t, "New in no engine", api.ErrEngine)(journal.New(c, kind))
		}
	}
}

func TestP24_1HeadByByte(t *testing.T) {
	j, _ := made(t, api.Config{Capacity: 0x0304, Meet: 2}, api.List)
	want := append([]byte{0x42, 0x46, 96, 0, 1, 0, 0, 0, 0, 0, 0, 0, 4, 3, 0, 0, 0, 0, 0, 0, 2, 0, 0, 0, 0, 0, 0, 0, 3}, make([]byte, 31)...)
	SameBytes(t, "a head but for its sum", j.Bytes()[:60], want)
}

func TestP24_2Batches(t *testing.T) {
	for _, kind := range Kinds() {
		j, m := made(t, small(), kind)
		does(t, j, m, to(Sell(1, 10, 5)))
		Same(t, "how many bytes", len(j.Bytes()), 192)
		// What is told of all inputs, one behind the other.
		l := []api.Input{to(Sell(2, 10, 5)), swap(api.Ladder), to(Buy(3, 11, 7)), to(Cancel(9)), swap(api.Tree)}
		tells(t, j, l, Numbered(1, Acked(Sell(2, 10, 5)), Acked(Buy(3, 11, 7)), Traded(3, 1, api.Buy, 10, 5), Traded(3, 2, api.Buy, 10, 2), Rejected(Cancel(9), api.ErrTarget)))
		m.do(t, l)
		isModel(t, j, m)
		SameBytes(t, "the last seal", j.Bytes()[192+5*64:], laid(98, 5, 6, uint64(sum(saidAll(l))), 6))
		// A batch of which nothing is told has the Seq of the last event.
		does(t, j, m, swap(api.List), swap(api.List))
		SameBytes(t, "a seal behind swaps", j.Bytes()[192+8*64:], laid(98, 2, 8, uint64(sum(slices.Concat(said(swap(3)), said(swap(3))))), 6))
		Same(t, "Engine", j.Engine(), api.List)
	}
}

func TestP24_2OfNone(t *testing.T) {
	for _, kind := range Kinds() {
		j, m := made(t, small(), kind)
		for _, l := range [][]api.Input{nil, {}, make([]api.Input, 0, 300)} {
			tells(t, j, l, nil)
			isModel(t, j, m)
		}
		does(t, j, m, to(Sell(1, 10, 5)))
		tells(t, j, nil, nil)
		isModel(t, j, m)
	}
}

// unsayable is inputs that can't be laid down, by why.
func unsayable() map[api.Errno][]api.Input {
	order := to(Sell(2, 10, 5))
	wrong := func(turn func(i *api.Input)) api.Input {
		i := order
		turn(&i)
		return i
	}
	return map[api.Errno][]api.Input{
		api.ErrMessage: {
			{}, {Kind: -1}, {Kind: 3}, {Kind: 9}, {Kind: 9, Engine: 9}, {Kind: api.ToBook},
			wrong(func(i *api.Input) { i.Command.Kind = 4 }), wrong(func(i *api.Input) { i.Command.Kind = -1 }), wrong(func(i *api.Input) { i.Kind = 0 }),
		},
		api.ErrField: {
			wrong(func(i *api.Input) { i.Command.Target = 1 }), wrong(func(i *api.Input) { i.Engine = 1 }), wrong(func(i *api.Input) { i.Kind = api.ToEngine }),
			wrong(func(i *api.Input) { i.Command.Price = -1 }), wrong(func(i *api.Input) { i.Command.Price = 1 << 32 }),
			wrong(func(i *api.Input) { i.Command.Side = 256 }), wrong(func(i *api.Input) { i.Command.Type = -1 }),
			to(api.Command{Kind: api.Cancel, Target: 1, ID: 1}), to(api.Command{Kind: api.Replace, Target: 1, ID: 2, Price: 1, Qty: 1, Side: 1}),
			swap(256), swap(-1), swap(math.MaxInt), {Kind: api.ToEngine, Engine: 9, Command: api.Command{ID: 1}},
		},
		api.ErrEngine: {swap(0), swap(4), swap(9), swap(255)},
	}
}

func TestP24_2WhatCantBeLaidDown(t *testing.T) {
	for _, kind := range Kinds() {
		j, m := made(t, small(), kind)
		does(t, j, m, to(Sell(1, 10, 5)))
		bad := unsayable()
		for why, l := range bad {
			for _, i := range l {
				fails(t, j, []api.Input{i}, why)
				fails(t, j, []api.Input{to(Sell(2, 10, 5)), swap(api.List), i, to(Cancel(1))}, why)
				// The first input's error counts, of whatever sort it is.
				for _, others := range bad {
					for _, other := range others {
						fails(t, j, []api.Input{to(Cancel(1)), i, other}, why)
					}
				}
			}
		}
		isModel(t, j, m)
		does(t, j, m, to(Sell(2, 10, 5)), to(Cancel(1)))
	}
}

func TestP24_2TooMany(t *testing.T) {
	for _, kind := range Kinds() {
		j, m := made(t, small(), kind)
		l := slices.Repeat([]api.Input{to(Cancel(9))}, 257)
		fails(t, j, l, api.ErrLong)
		fails(t, j, slices.Repeat(l, 300), api.ErrLong)
		// That they are too many is said ahead of what is wrong with one of them.
		fails(t, j, make([]api.Input, 257), api.ErrLong)
		fails(t, j, append(slices.Clone(l[:256]), swap(9)), api.ErrLong)
		isModel(t, j, m)
		does(t, j, m, l[:256]...)
		Same(t, "how many bytes", len(j.Bytes()), 64+257*64)
	}
}

// full is a journal that has MaxLog bytes, and its model: a head, and 255 batches of 256 inputs.
func full(t *testing.T, kind int) (*journal.Journal, *model) {
	t.Helper()
	j, m := made(t, small(), kind)
	s, last := m.now(), uint64(0)
	for n := range 255 {
		var l []api.Input
		for range 64 {
			last++
			l = append(l, inputs(Sell(last, 10, 5), Buy(last+1, 10, 3), Cancel(last))...)
			l = append(l, swap(1+(n+len(l))%3))
			last++
		}
		told, why := j.Do(l)
		Same(t, "what is wrong with a batch", why, api.OK)
		Same(t, "how much is told", len(told), 64*4)
		s = state{len(m.b) + 257*64, api.Book{Config: small(), High: last, Seq: told[len(told)-1].Seq}, l[255].Engine, s.count + 256, append(s.inputs, l...)}
		m.b = append(m.b, batch(saidAll(l), s.count, s.book.Seq)...)
		m.states = append(m.states, s)
	}
	isModel(t, j, m)
	Same(t, "how many bytes", len(m.b), 1<<22)
	return j, m
}

func TestP24_2P24_3P24_5NoRoom(t *testing.T) {
	j, m := full(t, api.Tree)
	// It is full: there is no room for one more, but all that is wrong with a batch is said ahead of that.
	fails(t, j, inputs(Cancel(1)), api.ErrRoom)
	fails(t, j, slices.Repeat(inputs(Cancel(1)), 256), api.ErrRoom)
	fails(t, j, make([]api.Input, 257), api.ErrLong)
	fails(t, j, []api.Input{to(Cancel(1)), {}}, api.ErrMessage)
	fails(t, j, []api.Input{swap(1), swap(9)}, api.ErrEngine)
	tells(t, j, nil, nil)
	isModel(t, j, m)
	// All its bytes count; one more is too many.
	k := found(t, m.b, m.now())
	fails(t, k, inputs(Cancel(1)), api.ErrRoom)
	refuses(t, "a byte too many", append(bytes.Clone(m.b), 0), api.ErrLong)
	refuses(t, "bytes that are no journal, and too many", make([]byte, 1<<22+1), api.ErrLong)
	refuses(t, "bytes that are no journal", make([]byte, 1<<22), api.ErrHead)
	found(t, m.b[:1<<22-1], m.behind(1<<22-1))
	// There is room for so many as fit, and not for one more.
	at, l := m.states[254], slices.Repeat(inputs(Cancel(0)), 256)
	for left := range 3 {
		j = found(t, m.b[:at.size], at)
		_, why := j.Do(l[left:])
		Same(t, "what is wrong with a batch that fits", why, api.OK)
		before := j.Bytes()
		Same(t, "how many frames there is room for", 1<<16-len(before)/64, left)
		fails(t, j, l[:max(left, 1)], api.ErrRoom)
		SameBytes(t, "Bytes", j.Bytes(), before)
		if left > 1 {
			_, why = j.Do(l[:left-1])
			Same(t, "what is wrong with a batch that just fits", why, api.OK)
			Same(t, "how many bytes", len(j.Bytes()), 1<<22)
		}
	}
	// A picture makes room.
	Same(t, "Compact", k.Compact(), api.OK)
	m = m.compacted(t)
	isModel(t, k, m)
	does(t, k, m, inputs(Cancel(1), Sell(m.now().book.High+1, 10, 5))...)
}

func TestP24_2P24_4MemoryIsItsOwn(t *testing.T) {
	for _, kind := range Kinds() {
		j, m := made(t, small(), kind)
		room := append(inputs(Sell(1, 10, 5), Sell(2, 11, 5), Buy(3, 10, 7), Buy(4, 9, 1)), make([]api.Input, 5)...)
		before := slices.Clone(room)
		want := m.do(t, room[:4])
		told, why := j.Do(room[:4])
		Same(t, "what is wrong with a batch", why, api.OK)
		SameList(t, "Do", told, want)
		SameList(t, "what was handed in, and its spare room", room, before)
		Spoil(room, swap(9))
		Spoil(told, api.Event{Seq: 77})
		isModel(t, j, m)
		Spoil(j.Bytes(), 0xee)
		Spoil(j.Inputs(), swap(9))
		x := j.Book()
		Spoil(x.Buys, api.Resting{ID: 77})
		Spoil(x.Sells, api.Resting{ID: 77})
		isModel(t, j, m)
		// No answer changes with what is done behind it.
		b, l := j.Bytes(), j.Inputs()
		does(t, j, m, inputs(Cancel(2))...)
		SameBytes(t, "an earlier answer of Bytes", b, m.b[:m.states[1].size])
		SameList(t, "an earlier answer of Inputs", l, m.states[1].inputs)
		Spoil(b, 0xee)
		isModel(t, j, m)
	}
}

func TestP24_4Asked(t *testing.T) {
	shapes(t, 400, 12, 6, func(t *testing.T, mix *Mixer, m *model) {
		j := replayed(t, m)
		for range 20 {
			does(t, j, m, wilds(mix, m.now().book, 6)...)
			// Asking changes nothing.
			isModel(t, j, m)
			if mix.Below(6) == 0 {
				Same(t, "Compact", j.Compact(), api.OK)
				m = m.compacted(t)
				isModel(t, j, m)
			}
		}
	})
}

func TestP24_5Examples(t *testing.T) {
	for _, kind := range Kinds() {
		j, m := made(t, small(), kind)
		Same(t, "Compact", j.Compact(), api.OK)
		Same(t, "how many bytes", len(j.Bytes()), 192)
		m = m.compacted(t)
		isModel(t, j, m)
		does(t, j, m, to(Sell(1, 10, 5)))
		Same(t, "Compact", j.Compact(), api.OK)
		Same(t, "how many bytes", len(j.Bytes()), 192)
		m = m.compacted(t)
		isModel(t, j, m)
		// Again and again: the picture stays the same.
		Same(t, "Compact", j.Compact(), api.OK)
		isModel(t, j, m)
		// The head has the engine in which the book is now.
		does(t, j, m, swap(1+kind%3), to(Buy(2, 9, 5)))
		Same(t, "Compact", j.Compact(), api.OK)
		Same(t, "how many bytes", len(j.Bytes()), 64+64+128)
		m = m.compacted(t)
		Same(t, "the engine of the head", j.Bytes()[4+3*8], byte(1+kind%3))
		isModel(t, j, m)
	}
}

func TestP24_5PictureByByte(t *testing.T) {
	j, _ := made(t, small(), api.Ladder)
	tells(t, j, inputs(Cancel(5), Sell(1, 10, 5)), Numbered(0, Rejected(Cancel(5), api.ErrTarget), Acked(Sell(1, 10, 5))))
	Same(t, "Compact", j.Compact(), api.OK)
	x := api.Book{Config: small(), High: 1, Seq: 2, Sells: []api.Resting{{ID: 1, Type: api.Limit, Price: 10, Visible: 5}}}
	b := encoded(t, x)
	want := slices.Concat(laid(96, 1, 4, 0, 2, 1), laid(97, 64, 2, uint64(sum(b))), b)
	SameBytes(t, "Bytes", j.Bytes(), want)
	tells(t, j, inputs(Cancel(1)), Numbered(2, Ended(1, 5, api.ByOwner)))
	x.Seq, x.Sells = 3, nil
	Same(t, "Compact", j.Compact(), api.OK)
	b = encoded(t, x)
	want = slices.Concat(laid(96, 1, 4, 0, 2, 1), laid(97, 35, 3, uint64(sum(b))), b, make([]byte, 29))
	SameBytes(t, "Bytes", j.Bytes(), want)
}

func TestP24_5EveryLength(t *testing.T) {
	// The zeros behind a snapshot: as few as are needed, from none to 63.
	over := map[int]bool{}
	j, m := made(t, api.Config{Capacity: 4096}, api.Tree)
	for id := uint64(1); id <= 70; id++ {
		does(t, j, m, to(Buy(id, int(id), id)))
		Same(t, "Compact", j.Compact(), api.OK)
		m = m.compacted(t)
		isModel(t, j, m)
		over[len(encoded(t, m.now().book))%64] = true
		found(t, m.b, m.now())
	}
	Same(t, "how many lengths there were, modulo 64", len(over), 64)
}

func TestP24_5TheGreatest(t *testing.T) {
	for _, kind := range Kinds() {
		x := api.Book{Config: api.Config{Capacity: 4096, Meet: 3}, High: math.MaxUint64, Seq: math.MaxUint64}
		for i := range 4096 {
			x.Buys = append(x.Buys, api.Resting{ID: math.MaxUint64 - uint64(i), Member: math.MaxUint32, Type: api.PostOnly, Price: api.Ticks - 1, Visible: math.MaxUint32})
		}
		m := shown(t, x, kind, math.MaxUint64)
		j := replayed(t, m)
		// All counters go round.
		does(t, j, m, swap(1+kind%3), to(Cancel(0)), to(Cancel(math.MaxUint64-7)))
		Same(t, "Count", j.Count(), 2)
		Same(t, "Seq", j.Book().Seq, 1)
		Same(t, "Compact", j.Compact(), api.OK)
		m = m.compacted(t)
		isModel(t, j, m)
		replayed(t, m)
	}
}

// A journal that New did not make has no book: none of its calls panics.
func TestP24_4NotMade(t *testing.T) {
	j := &journal.Journal{}
	fails(t, j, nil, api.OK)
	fails(t, j, inputs(Cancel(1)), api.ErrBook)
	fails(t, j, []api.Input{swap(1)}, api.ErrBook)
	fails(t, j, []api.Input{swap(9)}, api.ErrEngine)
	Same(t, "Compact", j.Compact(), api.ErrBook)
	is(t, j, state{}, nil)
}
