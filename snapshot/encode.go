package snapshot

import (
	"slices"

	"bourse/api"
	"bourse/lowest"
	"bourse/rules"
	"bourse/wire"
)

// magic is what a book's bytes begin with.
const magic = "BRSBOOK1"

// How many bytes the parts have.
const (
	headSize  = 31
	orderSize = 29
	sumSize   = 4
)

// Encode makes a book's bytes.
func Encode(b api.Book) ([]byte, api.Errno) {
	if why := rules.Valid(b); why != api.OK {
		return nil, why
	}
	w := writer(magic)
	w.head(b)
	for _, r := range slices.Concat(b.Buys, b.Sells) {
		w.order(r)
	}
	w.put(sumSize, uint64(wire.Sum(w)))
	return w, api.OK
}

// writer is bytes behind which more are put.
type writer []byte

// put puts a number in so many bytes.
func (w *writer) put(size int, n uint64) {
	at := len(*w)
	*w = append(*w, make([]byte, size)...)
	lowest.Put((*w)[at:], n)
}

func (w *writer) head(b api.Book) {
	w.put(2, uint64(b.Config.Capacity))
	w.put(1, uint64(b.Config.Meet))
	w.put(8, b.High)
	w.put(8, b.Seq)
	w.put(2, uint64(len(b.Buys)))
	w.put(2, uint64(len(b.Sells)))
}

func (w *writer) order(r api.Resting) {
	w.put(8, r.ID)
	w.put(4, uint64(r.Member))
	w.put(1, uint64(r.Type))
	w.put(4, uint64(r.Price))
	w.put(4, r.Visible)
	w.put(4, r.Hidden)
	w.put(4, r.Peak)
}
