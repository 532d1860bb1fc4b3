package snapshot

import (
	"bourse/api"
	"bourse/lowest"
	"bourse/rules"
	"bourse/wire"
)

// Decode reads a book from its bytes, or tells what is wrong with them, and where.
func Decode(b []byte) (api.Book, int, api.Errno) {
	if at, why := beginning(b); why != api.OK {
		return api.Book{}, at, why
	}
	left := reader(b[len(magic):])
	x, buys, sells := left.head()
	if at, why := end(b, headSize+orderSize*(buys+sells)); why != api.OK {
		return api.Book{}, at, why
	}
	x.Buys = left.orders(buys)
	x.Sells = left.orders(sells)
	if why := rules.Valid(x); why != api.OK {
		return api.Book{}, 0, why
	}
	return x, 0, api.OK
}

// beginning tells what is wrong with bytes ahead of the end of a head, and where.
func beginning(b []byte) (int, api.Errno) {
	for i := range min(len(b), len(magic)) {
		if b[i] != magic[i] {
			return i, api.ErrMagic
		}
	}
	if len(b) < headSize {
		return len(b), api.ErrShort
	}
	return 0, api.OK
}

// end tells what is wrong with the end of bytes whose sum must stand at some place, and where.
func end(b []byte, sumAt int) (int, api.Errno) {
	size := sumAt + sumSize
	switch {
	case len(b) < size:
		return len(b), api.ErrShort
	case len(b) > size:
		return size, api.ErrLong
	case lowest.Number(b[sumAt:]) != uint64(wire.Sum(b[:sumAt])):
		return sumAt, api.ErrSum
	}
	return 0, api.OK
}

// reader is bytes that were not read yet.
type reader []byte

// take is the next number, of so many bytes: there must be as many.
func (r *reader) take(size int) uint64 {
	n := lowest.Number((*r)[:size])
	*r = (*r)[size:]
	return n
}

// head is a book but for its orders, and how many buys and sells it has.
func (r *reader) head() (api.Book, int, int) {
	var b api.Book
	b.Config.Capacity = int(r.take(2))
	b.Config.Meet = int(r.take(1))
	b.High = r.take(8)
	b.Seq = r.take(8)
	buys := int(r.take(2))
	sells := int(r.take(2))
	return b, buys, sells
}

func (r *reader) orders(count int) []api.Resting {
	l := make([]api.Resting, count)
	for i := range l {
		l[i] = r.order()
	}
	return l
}

func (r *reader) order() api.Resting {
	var o api.Resting
	o.ID = r.take(8)
	o.Member = uint32(r.take(4))
	o.Type = int(r.take(1))
	o.Price = int(r.take(4))
	o.Visible = r.take(4)
	o.Hidden = r.take(4)
	o.Peak = r.take(4)
	return o
}
