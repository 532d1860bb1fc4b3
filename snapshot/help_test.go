package snapshot_test

import (
	"bytes"
	"encoding/binary"
	"hash/crc32"
	"math"
	"slices"
	"testing"

	"bourse/api"
	"bourse/rules"
	. "bourse/sample"
	"bourse/snapshot"
)

// The tests hold bytes against the library's own way to lay out these structs.

type head struct {
	Magic       [8]byte
	Capacity    uint16
	Meet        uint8
	High, Seq   uint64
	Buys, Sells uint16
}

type order struct {
	ID                           uint64
	Member                       uint32
	Type                         uint8
	Price, Visible, Hidden, Peak uint32
}

// laid is a book's bytes by the library.
func laid(t *testing.T, x api.Book) []byte {
	t.Helper()
	b := appended(t, nil, head{[8]byte([]byte("BRSBOOK1")), uint16(x.Config.Capacity), uint8(x.Config.Meet), x.High, x.Seq, uint16(len(x.Buys)), uint16(len(x.Sells))})
	for _, l := range [][]api.Resting{x.Buys, x.Sells} {
		for _, r := range l {
			b = appended(t, b, order{r.ID, r.Member, uint8(r.Type), uint32(r.Price), uint32(r.Visible), uint32(r.Hidden), uint32(r.Peak)})
		}
	}
	return binary.LittleEndian.AppendUint32(b, crc32.ChecksumIEEE(b))
}

func appended(t *testing.T, b []byte, what any) []byte {
	t.Helper()
	b, err := binary.Append(b, binary.LittleEndian, what)
	if err != nil {
		t.Fatal(err)
	}
	return b
}

// summed is the bytes with an end that fits what stands ahead of it.
func summed(b []byte) []byte {
	b = slices.Clone(b[:len(b)-4])
	return binary.LittleEndian.AppendUint32(b, crc32.ChecksumIEEE(b))
}

// told is what Decode tells, but for the book.
type told struct {
	at  int
	why api.Errno
}

// wanted is what P12.2 asks of bytes.
func wanted(t *testing.T, b []byte) (api.Book, told) {
	t.Helper()
	const magic = "BRSBOOK1"
	for i := range 8 {
		if len(b) == i {
			return api.Book{}, told{i, api.ErrShort}
		}
		if b[i] != magic[i] {
			return api.Book{}, told{i, api.ErrMagic}
		}
	}
	if len(b) < 31 {
		return api.Book{}, told{len(b), api.ErrShort}
	}
	from := bytes.NewReader(b)
	var h head
	taken(t, from, &h)
	ends := 31 + 29*int(h.Buys) + 29*int(h.Sells) + 4
	if len(b) < ends {
		return api.Book{}, told{len(b), api.ErrShort}
	}
	if len(b) > ends {
		return api.Book{}, told{ends, api.ErrLong}
	}
	if !bytes.Equal(summed(b), b) {
		return api.Book{}, told{ends - 4, api.ErrSum}
	}
	x := api.Book{Config: api.Config{Capacity: int(h.Capacity), Meet: int(h.Meet)}, High: h.High, Seq: h.Seq}
	for i := range int(h.Buys) + int(h.Sells) {
		var o order
		taken(t, from, &o)
		r := api.Resting{ID: o.ID, Member: o.Member, Type: int(o.Type), Price: int(o.Price), Visible: uint64(o.Visible), Hidden: uint64(o.Hidden), Peak: uint64(o.Peak)}
		if i < int(h.Buys) {
			x.Buys = append(x.Buys, r)
		} else {
			x.Sells = append(x.Sells, r)
		}
	}
	if rules.Valid(x) != api.OK {
		return api.Book{}, told{0, api.ErrBook}
	}
	return x, told{}
}

func taken(t *testing.T, from *bytes.Reader, into any) {
	t.Helper()
	if err := binary.Read(from, binary.LittleEndian, into); err != nil {
		t.Fatal(err)
	}
}

// decoded holds Decode of bytes against what is wanted of them.
func decoded(t *testing.T, b []byte) told {
	t.Helper()
	before := slices.Clone(b)
	x, at, why := snapshot.Decode(b)
	want, how := wanted(t, b)
	if how != (told{at, why}) || !SameBook(x, want) {
		t.Fatalf("Decode of %x: got %+v at %d, %v; wanted %+v, %+v", b, x, at, why, want, how)
	}
	SameList(t, "what was handed in", b, before)
	return how
}

// encoded is the bytes of a book that can be, held against the library's.
func encoded(t *testing.T, x api.Book) []byte {
	t.Helper()
	b, why := snapshot.Encode(x)
	Same(t, "Encode", why, api.OK)
	if !bytes.Equal(b, laid(t, x)) {
		t.Fatalf("Encode of %+v: got %x, wanted %x", x, b, laid(t, x))
	}
	return b
}

// single is a book of one sell.
func single() api.Book {
	return api.Book{Config: api.Config{Capacity: 1}, High: 1, Seq: 1, Sells: []api.Resting{{ID: 1, Type: api.Limit, Price: 10, Visible: 5}}}
}

// greatest is a book whose numbers are as great as they may be.
func greatest() api.Book {
	const most = math.MaxUint32
	x := api.Book{Config: api.Config{Capacity: api.MaxOrders, Meet: api.MeetBoth}, High: math.MaxUint64, Seq: math.MaxUint64}
	x.Buys = []api.Resting{
		{ID: math.MaxUint64, Member: most, Type: api.PostOnly, Price: api.Ticks - 2, Visible: 1 << 31, Hidden: 1<<31 - 1, Peak: most},
		{ID: math.MaxUint64 - 1, Member: most, Type: api.PostOnly, Price: api.Ticks - 2, Visible: most, Peak: most},
	}
	x.Sells = []api.Resting{
		{ID: 1 << 63, Member: 1 << 31, Type: api.Limit, Price: api.Ticks - 1, Visible: 1, Hidden: most - 1, Peak: 1 << 24},
		{ID: 0x0102030405060708, Member: 0x090a0b0c, Type: api.Limit, Price: api.Ticks - 1, Visible: 0x0d0e0f10, Hidden: 0x11121314, Peak: 0x21222324},
	}
	return x
}

// full is a book with as many orders as there may be, of which so many buy.
func full(buys int) api.Book {
	x := api.Book{Config: api.Config{Capacity: api.MaxOrders}, High: api.MaxOrders}
	for i := range api.MaxOrders {
		r := api.Resting{ID: uint64(i + 1), Member: uint32(i), Type: api.Limit, Visible: uint64(1 + i%7)}
		if i < buys {
			r.Price = api.MaxOrders - i
			x.Buys = append(x.Buys, r)
		} else {
			r.Price = api.MaxOrders + 1 + i/3
			x.Sells = append(x.Sells, r)
		}
	}
	return x
}

// books is some that can be: those at the ends, and those that commands lead to.
func books(t *testing.T) []api.Book {
	t.Helper()
	l := []api.Book{{Config: api.Config{Capacity: api.MaxOrders}}, {Config: api.Config{Capacity: 1, Meet: api.MeetNewest}, High: 7, Seq: 1 << 40}, single(), Fair(), greatest(), full(0), full(4096), full(1000)}
	for meet := range 4 {
		mix := Mixer(600 + meet)
		b, why := rules.New(api.Config{Capacity: 5 + 9*meet, Meet: meet})
		Same(t, "New", why, api.OK)
		for step := range 2000 {
			b.Do(Likely(&mix, b.Book().High, 30))
			if step%20 == 0 {
				l = append(l, b.Book())
			}
		}
	}
	return l
}
