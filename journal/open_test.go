package journal_test

import (
	"bytes"
	"encoding/binary"
	"math"
	"slices"
	"strconv"
	"testing"

	"bourse/api"
	"bourse/journal"
	. "bourse/sample"
)

// resting is a book of one order.
func resting() api.Book {
	return api.Book{Config: small(), High: 1, Seq: 1, Sells: []api.Resting{{ID: 1, Type: api.Limit, Price: 10, Visible: 5}}}
}

func TestP24_3Examples(t *testing.T) {
	for _, kind := range Kinds() {
		j, m := made(t, small(), kind)
		does(t, j, m, to(Sell(1, 10, 5)))
		b := j.Bytes()
		Same(t, "how many bytes", len(b), 192)
		k, n, why := journal.Open(b[:191])
		Same(t, "how many count", n, 64)
		Same(t, "Open", why, api.OK)
		isModel(t, k, empty(small(), kind))
		found(t, b, m.now())
		refuses(t, "63 bytes", b[:63], api.ErrHead)
		refuses(t, "a frame of Kind 1", b[64:], api.ErrHead)
		refuses(t, "a head that says that a picture follows", header(small(), kind, 1), api.ErrBook)
	}
}

// behind is bytes that stand behind a head: none, a batch, and a picture.
func behind(t *testing.T) [][]byte {
	t.Helper()
	return [][]byte{nil, {1, 2, 3}, batch(said(to(Sell(1, 10, 5))), 1, 1), pictured(t, resting(), 1)}
}

func TestP24_3NoHead(t *testing.T) {
	for _, follows := range []uint64{0, 1} {
		good := header(small(), api.Ladder, follows)
		for n := range 64 {
			refuses(t, "fewer bytes than a frame has", good[:n], api.ErrHead)
		}
		for _, rest := range behind(t) {
			for at := range 64 {
				for _, turn := range []byte{1, 16, 0x80, 0xff} {
					b := append(bytes.Clone(good), rest...)
					b[at] ^= turn
					refuses(t, "a spoilt head", b, api.ErrHead)
				}
			}
			for kind := range 256 {
				if kind != 96 {
					refuses(t, "a frame of another Kind", append(laid(byte(kind), 1, 4, 0, 2, follows), rest...), api.ErrHead)
				}
			}
		}
	}
	refuses(t, "no bytes", nil, api.ErrHead)
	refuses(t, "zeros", make([]byte, 640), api.ErrHead)
}

func TestP24_3WordsOfAHead(t *testing.T) {
	refused := func(words ...uint64) {
		t.Helper()
		for _, rest := range behind(t) {
			refuses(t, "a head with a wrong word", append(laid(96, words...), rest...), api.ErrHead)
		}
	}
	for _, follows := range []uint64{0, 1} {
		for _, word := range []uint64{0, 2, 257, 1<<32 + 1, math.MaxUint64} {
			refused(word, 4, 0, 2, follows)
		}
		for _, word := range []uint64{0, 4097, 1<<16 + 4, 1<<32 + 4, 1<<63 + 4, math.MaxUint64 - 3, math.MaxUint64} {
			refused(1, word, 0, 2, follows)
		}
		for _, word := range []uint64{4, 256, 1 << 32, 1<<63 + 1, math.MaxUint64} {
			refused(1, 4, word, 2, follows)
		}
		for _, word := range []uint64{0, 4, 9, 258, 1<<32 + 2, 1<<63 + 2, math.MaxUint64} {
			refused(1, 4, 0, word, follows)
		}
		for _, word := range []uint64{1, 2, 1 << 32, 1 << 63} {
			refused(1, 4, 0, 2, follows, word)
			refused(1, 4, 0, 2, follows, 0, word)
		}
	}
	for _, follows := range []uint64{2, 3, 256, 1<<32 + 1, 1 << 63, math.MaxUint64} {
		refused(1, 4, 0, 2, follows)
	}
	for c, can := range Configs() {
		for _, kind := range Kinds() {
			if can {
				found(t, header(c, kind, 0), empty(c, kind).now())
			} else {
				refuses(t, "a head of a config that can't be", header(c, kind, 0), api.ErrHead)
			}
		}
	}
}

func TestP24_3Picture(t *testing.T) {
	for _, kind := range Kinds() {
		for _, x := range []api.Book{{Config: small()}, {Config: small(), High: math.MaxUint64, Seq: 1 << 50}, resting(), Fair()} {
			for _, count := range []uint64{0, 1, 1 << 40, math.MaxUint64} {
				m := shown(t, x, kind, count)
				j := replayed(t, m)
				does(t, j, m, to(Cancel(3)), swap(1+kind%3), to(Cancel(77)))
				replayed(t, m)
				// Where the head says that none follows, a picture is no batch.
				found(t, append(header(x.Config, kind, 0), m.b[64:]...), empty(x.Config, kind).now())
			}
		}
	}
}

// posing is a book whose picture has, in its third 64 bytes, the frame of an input.
func posing(t *testing.T) api.Book {
	t.Helper()
	// The frame begins within the ID of the second order, and ends within the Member of the fourth one.
	frame := said(to(api.Command{Kind: api.Replace, ID: 9 + 1<<32 + 10<<40, Target: 5 << 8, Price: 1, Qty: 1<<8 + 10<<16 + 5<<48}))
	last := binary.LittleEndian.Uint32(frame[60:])
	x := api.Book{Config: small(), High: math.MaxUint64, Buys: []api.Resting{
		{ID: 1, Type: api.Limit, Price: 10, Visible: 5},
		{ID: 1 + uint64(binary.LittleEndian.Uint32(frame))<<32, Member: 9, Type: api.Limit, Price: 10, Visible: 5},
		{ID: 1 << 24, Type: api.Limit, Price: 10, Visible: 5},
		{ID: uint64(last) << 48, Member: last >> 16, Type: api.Limit, Price: 10, Visible: 5},
	}}
	SameBytes(t, "what stands in the picture", pictured(t, x, 0)[128:192], frame)
	return x
}

func TestP24_3P24_4InputsOfAPicture(t *testing.T) {
	// What stands in a picture is no input of the journal's batches, whatever it looks like.
	for _, kind := range Kinds() {
		m := shown(t, posing(t), kind, 5)
		j := replayed(t, m)
		Same(t, "Compact", j.Compact(), api.OK)
		isModel(t, j, m)
		does(t, j, m, to(Cancel(9)), swap(1+kind%3))
		replayed(t, m)
		Same(t, "Compact", j.Compact(), api.OK)
		isModel(t, j, m.compacted(t))
	}
}

func TestP24_3NoPicture(t *testing.T) {
	for _, x := range []api.Book{{Config: small()}, resting(), Fair()} {
		m := shown(t, x, api.Tree, 7)
		end := len(m.b)
		// Cut anywhere.
		for n := 64; n < end; n++ {
			refuses(t, "a picture that is not whole", m.b[:n], api.ErrBook)
		}
		m.do(t, inputs(Cancel(0)))
		for _, b := range [][]byte{m.b[:end], m.b} {
			// Another byte anywhere: of the frame, the snapshot, or the zeros.
			for at := 64; at < end; at++ {
				for _, turn := range []byte{1, 16, 0x80, 0xff} {
					spoilt := bytes.Clone(b)
					spoilt[at] ^= turn
					refuses(t, "a spoilt picture", spoilt, api.ErrBook)
				}
			}
			// Nothing at all where the picture should be.
			refuses(t, "a batch in a picture's place", append(header(small(), 1, 1), batch(said(swap(1)), 1, 0)...), api.ErrBook)
			refuses(t, "a picture behind a batch", slices.Concat(header(x.Config, 1, 1), batch(said(swap(1)), 1, 0), b[64:]), api.ErrBook)
			refuses(t, "zeros ahead of a picture", slices.Concat(b[:64], make([]byte, 64), b[64:]), api.ErrBook)
			refuses(t, "a picture without its zeros", slices.Concat(b[:end-1], b[end:]), api.ErrBook)
		}
	}
}

func TestP24_3WordsOfAPicture(t *testing.T) {
	for _, x := range []api.Book{{Config: small()}, resting(), Fair()} {
		b := encoded(t, x)
		size, right := uint64(len(b)), uint64(sum(b))
		rest := append(bytes.Clone(b), make([]byte, (64-len(b)%64)%64)...)
		head := header(x.Config, api.List, 1)
		refused := func(kind byte, words ...uint64) {
			t.Helper()
			for _, more := range [][]byte{nil, make([]byte, 640), batch(said(swap(1)), 8, x.Seq)} {
				refuses(t, "a picture with a wrong word", slices.Concat(head, laid(kind, words...), rest, more), api.ErrBook)
			}
		}
		found(t, slices.Concat(head, laid(97, size, 7, right), rest), shown(t, x, api.List, 7).now())
		for _, kind := range []byte{0, 1, 96, 98, 255} {
			refused(kind, size, 7, right)
		}
		for _, wrong := range []uint64{0, 1, 30, 34, size - 1, size + 1, size + 29, size + 64, 1 << 22, size + 1<<32, 1 << 63, size + 1<<63, math.MaxUint64} {
			refused(97, wrong, 7, right)
		}
		for _, wrong := range []uint64{0, right + 1, right + 1<<32, ^right, uint64(binary.LittleEndian.Uint32(b[len(b)-4:]))} {
			refused(97, size, 7, wrong)
		}
		for at := 3; at < 7; at++ {
			for _, wrong := range []uint64{1, 1 << 32, 1 << 63} {
				words := []uint64{size, 7, right, 0, 0, 0, 0}
				words[at] = wrong
				refused(97, words...)
			}
		}
	}
}

func TestP24_3PictureOfABookThatCantBe(t *testing.T) {
	// The bytes of a book of one order, some of them others, with sums that fit.
	good := encoded(t, resting())
	for _, x := range []struct {
		at   int
		with byte
	}{{0, 'b'}, {8, 0}, {8, 5}, {10, 1}, {10, 4}, {27, 1}, {29, 0}, {29, 2}, {31, 0}, {31, 2}, {31 + 12, 2}, {31 + 15, 4}, {31 + 17, 0}, {31 + 21, 1}} {
		b := bytes.Clone(good)
		b[x.at] = x.with
		b = binary.LittleEndian.AppendUint32(b[:60], sum(b[:60]))
		refuses(t, "a picture of a book that can't be", slices.Concat(header(small(), 1, 1), laid(97, 64, 1, uint64(sum(b))), b), api.ErrBook)
	}
	// Bytes that have another length than the book that they begin with.
	for _, b := range [][]byte{good[:63], good[:35], append(bytes.Clone(good), 0), append(bytes.Clone(good), good...)} {
		zeros := make([]byte, (64-len(b)%64)%64)
		refuses(t, "a picture of a longer book", slices.Concat(header(small(), 1, 1), laid(97, uint64(len(b)), 1, uint64(sum(b))), b, zeros), api.ErrBook)
	}
	// Another config than the head's.
	for _, c := range []api.Config{{Capacity: 5}, {Capacity: 3}, {Capacity: 1}, {Capacity: 4, Meet: 1}} {
		refuses(t, "a picture of another config", append(header(c, 1, 1), pictured(t, resting(), 1)...), api.ErrBook)
	}
}

func TestP24_3FirstError(t *testing.T) {
	// A head that is wrong, though what it says of a picture is wrong, too.
	refuses(t, "a wrong head without a picture", header(small(), 9, 1), api.ErrHead)
	refuses(t, "a wrong head without a picture", header(api.Config{}, 1, 1), api.ErrHead)
	// Bytes that are too many, whatever stands in them.
	for _, head := range [][]byte{header(small(), 9, 1), header(small(), 1, 1), header(small(), 1, 0), nil} {
		refuses(t, "too many bytes", append(head, make([]byte, 1<<22+1-len(head))...), api.ErrLong)
	}
	// As many as there may be.
	refuses(t, "no picture", append(header(small(), 1, 1), make([]byte, 1<<22-64)...), api.ErrBook)
	found(t, append(header(small(), 1, 0), make([]byte, 1<<22-64)...), empty(small(), 1).now())
}

// forgeries is what stands in the place of a batch and is none, behind so many inputs and of a book of such a Seq, which takes order 9 to sell.
func forgeries(count, seq uint64) map[string][]byte {
	one := said(to(Sell(9, 20, 5)))
	n := uint64(sum(one))
	seal := func(words ...uint64) []byte { return append(bytes.Clone(one), laid(98, words...)...) }
	of := func(frame []byte) []byte {
		return batch(slices.Concat(one, frame, said(to(Cancel(9)))), count+3, seq+2)
	}
	l := map[string][]byte{
		"fewer bytes than a frame":   one[:63],
		"zeros":                      make([]byte, 64),
		"an input":                   one,
		"a seal alone":               laid(98, 0, count, 0, seq),
		"two seals":                  append(laid(98, 0, count, 0, seq), batch(one, count+1, seq+1)...),
		"too many":                   batch(bytes.Repeat(said(to(Cancel(0))), 257), count+257, seq+257),
		"too many of swaps":          batch(bytes.Repeat(said(swap(1)), 300), count+300, seq),
		"a seal of none":             seal(0, count+1, n, seq+1),
		"a seal of two":              seal(2, count+1, n, seq+1),
		"a seal of too many":         seal(1+1<<32, count+1, n, seq+1),
		"a seal that counts none":    seal(1, count, n, seq+1),
		"a seal that counts two":     seal(1, count+2, n, seq+1),
		"a seal that counts many":    seal(1, count+1+1<<32, n, seq+1),
		"a seal of no sum":           seal(1, count+1, 0, seq+1),
		"a seal of another sum":      seal(1, count+1, n+1, seq+1),
		"a seal of a long sum":       seal(1, count+1, n+1<<32, seq+1),
		"a seal of the Seq ahead":    seal(1, count+1, n, seq),
		"a seal of a later Seq":      seal(1, count+1, n, seq+2),
		"a seal of no Seq":           seal(1, count+1, n, 0),
		"a seal with a fifth word":   seal(1, count+1, n, seq+1, 1),
		"a seal with a sixth word":   seal(1, count+1, n, seq+1, 0, 1),
		"a seal with a seventh word": seal(1, count+1, n, seq+1, 0, 0, 1),
		"a seal of another Kind":     append(bytes.Clone(one), laid(99, 1, count+1, n, seq+1)...),
		"a seal ahead":               append(laid(98, 1, count+1, n, seq+1), one...),
		"zeros ahead of a seal":      slices.Concat(one, make([]byte, 64), laid(98, 1, count+1, n, seq+1)),
		"zeros ahead":                slices.Concat(make([]byte, 64), batch(one, count+1, seq+1)),
		"a byte ahead":               slices.Concat([]byte{0}, batch(one, count+1, seq+1)),
		"an event":                   of(laid(65, 1, 9)),
		"no input":                   of(laid(0)),
		"an input of no form":        of(laid(2, 1, 1)),
		"an engine of no form":       of(laid(4, 256)),
		"a head":                     of(header(small(), 1, 0)),
		"a picture's frame":          of(laid(97, 35, count, 0)),
		"an input that is spoilt":    of(turned(one, 9)),
		"a spoilt input alone":       batch(turned(one, 9), count+1, seq+1),
		"a spoilt seal":              turned(batch(one, count+1, seq+1), 64+12),
		"swaps and a wrong Seq":      batch(slices.Concat(said(swap(2)), one, said(swap(3))), count+3, seq),
	}
	for _, kind := range []uint64{0, 4, 9, 255} {
		l["the engine "+strconv.FormatUint(kind, 10)] = of(laid(4, kind))
	}
	if count > 0 {
		l["a seal that counts its own"] = seal(1, 1, n, seq+1)
	}
	return l
}

// turned is the bytes with one of them changed.
func turned(b []byte, at int) []byte {
	b = bytes.Clone(b)
	b[at] ^= 0x10
	return b
}

func TestP24_3NoBatch(t *testing.T) {
	for _, kind := range Kinds() {
		for _, m := range []*model{empty(small(), kind), shown(t, resting(), kind, 40)} {
			for range 3 {
				s := m.now()
				for what, b := range forgeries(s.count, s.book.Seq) {
					t.Log(what)
					// Nothing of it is done; nor of what stands behind it, were that whole.
					b = append(bytes.Clone(m.b), b...)
					found(t, b, s)
					for more := range uint64(4) {
						found(t, append(bytes.Clone(b), batch(said(to(Cancel(0))), s.count+more, s.book.Seq+more)...), s)
					}
				}
				// In the place of all these a batch is found.
				whole := batch(said(to(Sell(9, 20, 5))), s.count+1, s.book.Seq+1)
				_, then := s.done(t, to(Sell(9, 20, 5)))
				then.size += len(whole)
				found(t, append(bytes.Clone(m.b), whole...), then)
				m.do(t, []api.Input{swap(1 + kind%3), to(Sell(s.book.High+1, 10, 2)), to(Cancel(s.book.High + 1))})
			}
		}
	}
}

func TestP24_3WhatIsNotDone(t *testing.T) {
	// Of a batch whose seal has another Seq all is done ahead of that being known: nothing of it may stay.
	for _, kind := range Kinds() {
		_, m := made(t, api.Config{Capacity: 9, Meet: api.MeetOldest}, kind)
		m.do(t, inputs(Peaked(Sell(1, 10, 9), 2), By(Sell(2, 10, 9), 7), Buy(3, 9, 4)))
		m.do(t, inputs(Replace(2, 4, 11, 3)))
		l := []api.Input{to(Buy(5, 11, 30)), swap(1 + kind%3), to(Cancel(3)), to(Sell(6, 9, 2))}
		frames := saidAll(l)
		s := m.now()
		m.do(t, l)
		ahead, seq := m.b[:s.size], m.now().book.Seq
		for _, wrong := range []uint64{0, 1, s.book.Seq, seq - 1, seq + 1, seq + 1<<32, math.MaxUint64} {
			b := append(bytes.Clone(ahead), batch(frames, s.count+4, wrong)...)
			j := found(t, b, s)
			tells(t, j, l, told(t, found(t, ahead, s), l))
		}
		replayed(t, m)
	}
}

func TestP24_3MemoryIsItsOwn(t *testing.T) {
	for _, kind := range Kinds() {
		for _, m := range []*model{empty(small(), kind), shown(t, Fair(), kind, 7)} {
			m.do(t, inputs(Sell(11, 13, 5), Buy(12, 11, 1)))
			room := append(bytes.Clone(m.b), "spare room"...)
			before := bytes.Clone(room)
			j := found(t, room[:len(m.b)], m.now())
			SameBytes(t, "what was handed in, and its spare room", room, before)
			does(t, j, m, inputs(Cancel(11))...)
			SameBytes(t, "what was handed in, and its spare room", room, before)
			k := found(t, room[:len(before)-10], m.behind(len(before)-10))
			Spoil(room, 0xee)
			isModel(t, j, m)
			tells(t, k, inputs(Cancel(11)), told(t, found(t, before, m.behind(len(before)-10)), inputs(Cancel(11))))
			isModel(t, k, m)
		}
	}
}
