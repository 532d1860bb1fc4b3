package snapshot_test

import (
	"bytes"
	"math"
	"slices"
	"testing"

	"bourse/api"
	. "bourse/sample"
	"bourse/snapshot"
)

func TestP12_1Examples(t *testing.T) {
	empty := encoded(t, api.Book{Config: api.Config{Capacity: 4096}})
	Same(t, "bytes of an empty book", len(empty), 35)
	Same(t, "its head", string(empty[:31]), "BRSBOOK1\x00\x10\x00"+string(make([]byte, 20)))
	Same(t, "bytes of one sell", len(encoded(t, single())), 64)
	b := encoded(t, api.Book{
		Config: api.Config{Capacity: 0x0102, Meet: 3},
		Buys:   []api.Resting{{ID: 0x0304, Member: 0x0506, Type: api.PostOnly, Price: 0x0708, Visible: 0x090a, Hidden: 0x0b0c, Peak: 0x0d0e}},
		High:   0x0f10,
		Seq:    0x1112,
	})
	Same(t, "the bytes ahead of the sum", string(b[:60]), "BRSBOOK1\x02\x01\x03\x10\x0f\x00\x00\x00\x00\x00\x00\x12\x11\x00\x00\x00\x00\x00\x00\x01\x00\x00\x00"+
		"\x04\x03\x00\x00\x00\x00\x00\x00\x06\x05\x00\x00\x05\x08\x07\x00\x00\x0a\x09\x00\x00\x0c\x0b\x00\x00\x0e\x0d\x00\x00")
}

func TestP12_1ManyBooks(t *testing.T) {
	for _, x := range books(t) {
		b := encoded(t, x)
		Same(t, "how many bytes", len(b), 35+29*(len(x.Buys)+len(x.Sells)))
	}
}

func TestP12_1BooksThatCantBe(t *testing.T) {
	wrong := append(Spoilt(), api.Book{}, api.Book{Config: api.Config{Capacity: 4097}}, api.Book{Config: api.Config{Capacity: 1, Meet: -1}})
	// Some whose bytes are those of another book, as their numbers do not fit.
	for _, turn := range []func(x *api.Book){
		func(x *api.Book) { x.Config.Capacity += 1 << 16 },
		func(x *api.Book) { x.Config.Capacity -= 1 << 16 },
		func(x *api.Book) { x.Config.Meet += 1 << 8 },
		func(x *api.Book) { x.Sells[0].Type += 1 << 8 },
		func(x *api.Book) { x.Sells[0].Price += 1 << 32 },
		func(x *api.Book) { x.Sells[0].Visible += 1 << 32 },
		func(x *api.Book) { x.Sells[0].Hidden += 1 << 32 },
		func(x *api.Book) { x.Sells[0].Peak += 1 << 32 },
	} {
		x := single()
		turn(&x)
		wrong = append(wrong, x)
	}
	for _, x := range wrong {
		if b, why := snapshot.Encode(x); len(b) != 0 || why != api.ErrBook {
			t.Errorf("Encode of %+v: %x, %v", x, b, why)
		}
	}
}

func TestP12_2Examples(t *testing.T) {
	empty := encoded(t, api.Book{Config: api.Config{Capacity: 4096}})
	spoilt := slices.Clone(encoded(t, single()))
	spoilt[31+8+4+1+4] = 0
	for _, x := range []struct {
		b    []byte
		want told
	}{
		{empty[:34], told{34, api.ErrShort}},
		{append(slices.Clone(empty), 0), told{35, api.ErrLong}},
		{[]byte("BRSBOOK2"), told{7, api.ErrMagic}},
		{[]byte("BRS"), told{3, api.ErrShort}},
		{nil, told{0, api.ErrShort}},
		{[]byte("BRX"), told{2, api.ErrMagic}},
		{[]byte("X"), told{0, api.ErrMagic}},
		{[]byte("BRSBOOK1"), told{8, api.ErrShort}},
		{empty[:30], told{30, api.ErrShort}},
		{empty[:31], told{31, api.ErrShort}},
		{spoilt, told{60, api.ErrSum}},
		{summed(spoilt), told{0, api.ErrBook}},
		{empty, told{}},
	} {
		Same(t, "Decode", decoded(t, x.b), x.want)
	}
}

func TestP12_2TheFirstFault(t *testing.T) {
	// The faults in their order, each beside all that come behind it.
	b := encoded(t, single())
	b[31] = 0 // an ID that can't be, and another sum
	Same(t, "the sum ahead of the book", decoded(t, b), told{60, api.ErrSum})
	Same(t, "the length ahead of the sum", decoded(t, append(slices.Clone(b), 7)), told{64, api.ErrLong})
	Same(t, "the length ahead of the sum", decoded(t, b[:63]), told{63, api.ErrShort})
	b[7] = '2'
	Same(t, "the beginning ahead of the length", decoded(t, b[:20]), told{7, api.ErrMagic})
	Same(t, "the beginning ahead of the length", decoded(t, append(slices.Clone(b), 7)), told{7, api.ErrMagic})
	b[3] = 'b'
	Same(t, "the first wrong byte", decoded(t, b), told{3, api.ErrMagic})
}

func TestP12_2Lengths(t *testing.T) {
	for _, x := range []api.Book{{Config: api.Config{Capacity: 4}}, single(), Fair()} {
		good := encoded(t, x)
		for n := range good {
			Same(t, "Decode", decoded(t, good[:n]), told{n, api.ErrShort})
		}
		for n := 1; n < 80; n++ {
			Same(t, "Decode", decoded(t, append(slices.Clone(good), make([]byte, n)...)), told{len(good), api.ErrLong})
		}
		// Numbers of orders that are others than there are, with a sum that fits.
		for _, buys := range []byte{0, 1, 2, 3, 255} {
			for _, sells := range []byte{0, 1, 2, 3, 255} {
				for _, high := range []byte{0, 1, 255} {
					b := slices.Clone(good)
					b[27], b[28], b[29], b[30] = buys, high, sells, 0
					decoded(t, summed(b))
					b[28], b[30] = 0, high
					decoded(t, summed(b))
				}
			}
		}
	}
	// As many orders as a head can tell of: no book has so many.
	b := append([]byte("BRSBOOK1\x00\x10\x00"), make([]byte, 16)...)
	b = append(b, 255, 255, 255, 255)
	b = append(b, make([]byte, 29*2*65535+4)...)
	Same(t, "Decode", decoded(t, summed(b)), told{0, api.ErrBook})
	Same(t, "Decode", decoded(t, b[:len(b)-1]), told{len(b) - 1, api.ErrShort})
	Same(t, "Decode", decoded(t, append(b, 0)), told{len(b), api.ErrLong})
}

func TestP12_2EveryByte(t *testing.T) {
	for _, x := range []api.Book{{Config: api.Config{Capacity: 4}}, single(), Fair(), greatest()} {
		good := encoded(t, x)
		for i := range good {
			for c := range 256 {
				b := slices.Clone(good)
				b[i] = byte(c)
				how := decoded(t, b)
				Same(t, "whether it is refused", how.why != api.OK, b[i] != good[i])
				// With a sum that fits, the numbers alone decide.
				decoded(t, summed(b))
			}
		}
	}
}

func TestP12_2NothingIsShared(t *testing.T) {
	good := encoded(t, Fair())
	b := append(make([]byte, 0, 400), good...)
	x, _, why := snapshot.Decode(b)
	Same(t, "Decode", why, api.OK)
	Same(t, "whether the spare room is as it was", string(b[len(b):cap(b)]), string(make([]byte, 400-len(good))))
	Spoil(b, 0xff)
	Same(t, "whether a book is as it was", SameBook(x, Fair()), true)
	again, _, _ := snapshot.Decode(good)
	Spoil(x.Buys, api.Resting{ID: 77})
	SameList(t, "Sells beside Buys", x.Sells, Fair().Sells)
	Spoil(x.Sells, api.Resting{ID: 77})
	Same(t, "whether another answer is as it was", SameBook(again, Fair()), true)
	// Nor do a book's bytes share anything with it, or with the next ones.
	first := encoded(t, again)
	Same(t, "whether a book is as it was", SameBook(again, Fair()), true)
	Spoil(first, 0)
	SameList(t, "the next bytes", encoded(t, again), good)
	Same(t, "whether a book is as it was", SameBook(again, Fair()), true)
}

func TestP12_1P12_2SpareRoomOfABook(t *testing.T) {
	x := Fair()
	room := make([]api.Resting, 9)
	x.Buys = room[:copy(room, x.Buys)]
	encoded(t, x)
	SameList(t, "the spare room", room[2:], make([]api.Resting, 7))
}

func TestP12_5OneForm(t *testing.T) {
	for _, x := range books(t) {
		b, why := snapshot.Encode(x)
		Same(t, "Encode", why, api.OK)
		got, at, why := snapshot.Decode(b)
		if !SameBook(got, x) || at != 0 || why != api.OK {
			t.Fatalf("Decode of the bytes of %+v: %+v at %d, %v", x, got, at, why)
		}
	}
}

func TestP12_5WhateverIsTaken(t *testing.T) {
	mix := Mixer(5)
	odd := []byte{0, 1, 2, 4, 5, 9, 10, 11, 12, 127, 128, 255}
	taken := 0
	for range 20000 {
		x := Pick(&mix, single(), Fair(), greatest())
		b := laid(t, x)
		for range 1 + mix.Below(3) {
			b[8+mix.Below(len(b)-8)] = Pick(&mix, odd...)
		}
		b = summed(b)
		if decoded(t, b).why != api.OK {
			continue
		}
		taken++
		got, _, _ := snapshot.Decode(b)
		again, why := snapshot.Encode(got)
		if !bytes.Equal(again, b) || why != api.OK {
			t.Fatalf("%x was read, and written as %x, %v", b, again, why)
		}
	}
	if taken < 2000 {
		t.Error("too few were taken:", taken)
	}
}

// turned is the bytes with a burst that begins at a bit, the bits of each byte counted from the lowest up.
func turned(b []byte, at int, burst uint32) []byte {
	b = slices.Clone(b)
	for i := range 32 {
		if burst>>i&1 == 1 {
			b[(at+i)/8] ^= 1 << ((at + i) % 8)
		}
	}
	return b
}

func TestP12_8Bursts(t *testing.T) {
	mix := Mixer(8)
	for _, x := range []api.Book{{Config: api.Config{Capacity: 4096}}, single(), Fair()} {
		good := encoded(t, x)
		refused := func(at int, burst uint32) {
			t.Helper()
			if got, _, why := snapshot.Decode(turned(good, at, burst)); why == api.OK || !SameBook(got, api.Book{}) {
				t.Fatalf("burst %x at %d: %+v, %v", burst, at, got, why)
			}
		}
		bits := 8 * len(good)
		for at := range bits {
			for width := 1; width <= min(32, bits-at); width++ {
				whole := uint32(1)<<width - 1
				refused(at, whole)
				refused(at, 1|1<<(width-1))
				refused(at, uint32(mix.Next())&whole|1)
			}
		}
	}
}

func TestP12_8BurstsThatKeepTheLength(t *testing.T) {
	// The numbers of the buys and of the sells are turned into one another.
	x := Fair()
	x.Sells = x.Sells[:1]
	good := encoded(t, x)
	b := turned(good, 8*27, 3|3<<16)
	Same(t, "Decode", decoded(t, b), told{len(b) - 4, api.ErrSum})
	x.Seq = math.MaxUint64
	// All that is turned is a number that may be anything.
	good = encoded(t, x)
	for at := 8 * 19; at < 8*27-32; at++ {
		b = turned(good, at, math.MaxUint32)
		Same(t, "Decode", decoded(t, b), told{len(b) - 4, api.ErrSum})
		Same(t, "Decode with a sum that fits", decoded(t, summed(b)), told{})
	}
}
