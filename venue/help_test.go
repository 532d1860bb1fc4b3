package venue_test

import (
	"bytes"
	"encoding/binary"
	"hash/crc32"
	"slices"
	"testing"

	"bourse/api"
	"bourse/message"
	"bourse/rules"
	. "bourse/sample"
	"bourse/venue"
	"bourse/wire"
)

// The tests lay out frames by encoding/binary and hash/crc32, also those that no message is, and hold what is told against a model that makes a list book anew for each command.

// each runs a test in every engine.
func each(t *testing.T, test func(t *testing.T, kind int)) {
	t.Run("tree", func(t *testing.T) { test(t, api.Tree) })
	t.Run("ladder", func(t *testing.T) { test(t, api.Ladder) })
	t.Run("list", func(t *testing.T) { test(t, api.List) })
}

func made(t *testing.T, c api.Config, kind int) *venue.Venue {
	t.Helper()
	v, why := venue.New(c, kind)
	if v == nil || why != api.OK {
		t.Fatalf("New(%+v, %d): %v", c, kind, why)
	}
	return v
}

func opened(t *testing.T, x api.Book, kind int) *venue.Venue {
	t.Helper()
	v, why := venue.Open(x, kind)
	if v == nil || why != api.OK {
		t.Fatalf("Open(%+v, %d): %v", x, kind, why)
	}
	keeps(t, v, x, kind)
	return v
}

// keeps ends a test where a venue has another book, or has it in another engine.
func keeps(t *testing.T, v *venue.Venue, want api.Book, kind int) {
	t.Helper()
	if x := v.Book(); !SameBook(x, want) {
		t.Fatalf("Book: got %+v, wanted %+v", x, want)
	}
	Same(t, "Engine", v.Engine(), kind)
}

// laid is the bytes of a frame of a kind, whatever its words say.
func laid(kind byte, words ...uint64) []byte {
	b := []byte{0x42, 0x46, kind, 0}
	for i := range 7 {
		var word uint64
		if i < len(words) {
			word = words[i]
		}
		b = binary.LittleEndian.AppendUint64(b, word)
	}
	return summed(b)
}

// summed is sixty bytes, and the check sum of them.
func summed(b []byte) []byte {
	b = slices.Clone(b[:60])
	return binary.LittleEndian.AppendUint32(b, crc32.ChecksumIEEE(b))
}

// said is a command's frame; where a field has no room there, one that can't be read.
func said(c api.Command) []byte {
	who := uint64(c.Member) + uint64(c.Side)<<32 + uint64(c.Type)<<40
	switch c.Kind {
	case api.New:
		return laid(1, c.ID, 0, who, uint64(c.Price), c.Qty, c.Peak)
	case api.Cancel:
		return laid(2, 0, c.Target)
	case api.Replace:
		return laid(3, c.ID, c.Target, 0, uint64(c.Price), c.Qty, c.Peak)
	}
	return laid(byte(c.Kind), c.ID, c.Target, who, uint64(c.Price), c.Qty, c.Peak)
}

// saidAll is the frames of commands, one behind the other.
func saidAll(commands ...api.Command) []byte {
	var b []byte
	for _, c := range commands {
		b = append(b, said(c)...)
	}
	return b
}

// named is the frame that names an engine.
func named(engine uint64) []byte { return laid(4, engine) }

// turned is the bytes with one of them changed.
func turned(b []byte, at int) []byte {
	b = slices.Clone(b)
	b[at] ^= 0x10
	return b
}

// spoils is frames that can't be read, by what is wrong with them.
func spoils() map[api.Errno][][]byte {
	order := said(Buy(1, 10, 5))
	wrong := func(at int) []byte { return summed(turned(order, at)) }
	return map[api.Errno][][]byte{
		api.ErrMagic:   {make([]byte, 64), turned(order, 0), turned(order, 1), turned(order, 3), wrong(0), wrong(1), wrong(3), bytes.Repeat([]byte{0xff}, 64)},
		api.ErrSum:     {turned(order, 2), turned(order, 4), turned(order, 59), turned(order, 60), turned(order, 63), turned(laid(65), 9), turned(laid(2, 1, 1), 9), turned(named(9), 60)},
		api.ErrMessage: {laid(0), laid(5), laid(64), laid(65), laid(66, 1, 1), laid(69, 1, 1, 0, 0, 1, 1), laid(70), laid(98), laid(255, 1, 1, 1, 1, 1, 1, 1)},
		api.ErrField:   {laid(1, 1, 1), laid(1, 1, 0, 1<<48), laid(1, 1, 0, 0, 1<<32), laid(1, 1, 0, 0, 1, 1, 1, 1), laid(2, 1, 1), laid(2, 0, 1, 0, 0, 0, 1), laid(3, 2, 1, 1), laid(4, 256), laid(4, 1, 1), laid(4, 9, 0, 0, 0, 0, 0, 1)},
	}
}

// spoilt is all frames that can't be read, in an order of their own.
func spoilt() [][]byte {
	var l [][]byte
	all := spoils()
	for _, why := range []api.Errno{api.ErrMagic, api.ErrSum, api.ErrMessage, api.ErrField} {
		l = append(l, all[why]...)
	}
	return l
}

// refused tells of a frame that is nothing for the book.
func refused(why api.Errno) api.Event { return api.Event{Kind: api.EvReject, Code: why} }

// framed is the frame of an event, laid out by the tables of chapter 4.
func framed(e api.Event) []byte {
	who := uint64(e.Member) + uint64(e.Side)<<32 + uint64(e.Type)<<40 + uint64(e.Reason)<<48
	return laid(byte(64+e.Kind), e.Seq, e.ID, e.Other+e.Target, who, uint64(e.Price)+uint64(e.Code)<<32, e.Qty, e.Peak)
}

// framedAll is the frames of events, one behind the other.
func framedAll(l ...api.Event) []byte {
	var b []byte
	for _, e := range l {
		b = append(b, framed(e)...)
	}
	return b
}

// events reads those whose frames bytes must be.
func events(t *testing.T, b []byte) []api.Event {
	t.Helper()
	var l []api.Event
	for f, why := range wire.All(b) {
		Same(t, "what is wrong with a frame that is told", why, api.OK)
		e, why := message.UnpackEvent(f)
		Same(t, "what is wrong with an event that is told", why, api.OK)
		l = append(l, e)
	}
	return l
}

// tells holds bytes that a venue told against the frames of events, numbered behind seq.
func tells(t *testing.T, got []byte, seq uint64, want ...api.Event) {
	t.Helper()
	if b := framedAll(Numbered(seq, want...)...); !bytes.Equal(got, b) {
		t.Fatalf("what is told: got %+v, wanted %+v", events(t, got), events(t, b))
	}
}

// feeds feeds bytes of which these events must be told, numbered from the book's Seq on.
func feeds(t *testing.T, v *venue.Venue, b []byte, want ...api.Event) {
	t.Helper()
	seq := v.Book().Seq
	tells(t, v.Feed(b), seq, want...)
	Same(t, "Seq", v.Book().Seq, seq+uint64(len(want)))
}

// closes closes a venue, of which these must be told.
func closes(t *testing.T, v *venue.Venue, want ...api.Event) {
	t.Helper()
	seq := v.Book().Seq
	tells(t, v.Close(), seq, want...)
	Same(t, "Seq", v.Book().Seq, seq+uint64(len(want)))
}

// model is what a venue must be: a book that is kept as a value, and in which engine it is said to be.
type model struct {
	book   api.Book
	engine int
}

// done is what a list book tells of a command.
func (m *model) done(t *testing.T, c api.Command) []api.Event {
	t.Helper()
	b, why := rules.New(m.book.Config)
	Same(t, "New", why, api.OK)
	Same(t, "Load", b.Load(m.book), api.OK)
	told := b.Do(c)
	m.book = b.Book()
	return told
}

// refuses is what is told of what is nothing for the book.
func (m *model) refuses(why api.Errno) []api.Event {
	told := Numbered(m.book.Seq, refused(why))
	m.book.Seq++
	return told
}

// read is what must be told of a frame.
func (m *model) read(t *testing.T, b []byte) []api.Event {
	t.Helper()
	f, why := wire.Unpack(b)
	if why != api.OK {
		return m.refuses(why)
	}
	i, why := message.Unpack(f)
	switch {
	case why != api.OK:
		return m.refuses(why)
	case i.Kind == api.ToBook:
		return m.done(t, i.Command)
	case i.Engine < 1 || i.Engine > 3:
		return m.refuses(api.ErrEngine)
	}
	m.engine = i.Engine
	return nil
}

// all is the bytes that must be told of bytes and of their end.
func (m *model) all(t *testing.T, b []byte) []byte {
	t.Helper()
	var told []byte
	for piece := range slices.Chunk(b, 64) {
		if len(piece) < 64 {
			told = append(told, framedAll(m.refuses(api.ErrShort)...)...)
			continue
		}
		told = append(told, framedAll(m.read(t, piece)...)...)
	}
	return told
}

// stream is frames of all sorts: of commands that a book may well take, of wild ones, of engines (if they are wanted) and spoilt ones.
func stream(t *testing.T, mix *Mixer, c api.Config, count int, swaps bool) [][]byte {
	t.Helper()
	m := &model{book: api.Book{Config: c}}
	prices := 3 + mix.Below(8)
	bad := spoilt()
	var frames [][]byte
	for range count {
		var b []byte
		switch n := mix.Below(100); {
		case n < 12 && swaps:
			b = named(uint64(1 + mix.Below(3)))
		case n < 15:
			b = named(Pick[uint64](mix, 0, 4, 5, 9, 128, 255))
		case n < 20:
			b = Pick(mix, bad...)
		case n < 25:
			b = summed(turned(said(Likely(mix, m.book.High, prices)), mix.Below(60)))
		case n < 30:
			b = turned(said(Likely(mix, m.book.High, prices)), mix.Below(64))
		default:
			b = said(wild(mix, m.book, prices))
		}
		m.read(t, b)
		frames = append(frames, b)
	}
	return frames
}

// wild is a command that may be anything, but leaves numbers for those that come; many name an order that there is.
func wild(mix *Mixer, x api.Book, prices int) api.Command {
	c := Wild(mix, x.High, prices)
	if c.ID > x.High+9 {
		c.ID = x.High + 1
	}
	if l := slices.Concat(x.Buys, x.Sells); len(l) > 0 && mix.Below(2) == 0 {
		c.Target = Pick(mix, l...).ID
	}
	return c
}

// shapes plays a test with streams of several shapes.
func shapes(t *testing.T, seed, count int, swaps bool, test func(t *testing.T, mix *Mixer, c api.Config, frames [][]byte)) {
	t.Helper()
	for shape := range 16 {
		mix := Mixer(seed + shape)
		c := api.Config{Capacity: Pick(&mix, 1, 3, 9, 30), Meet: shape % 4}
		test(t, &mix, c, stream(t, &mix, c, count, swaps))
	}
}
