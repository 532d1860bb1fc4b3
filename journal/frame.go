package journal

import (
	"bourse/api"
	"bourse/snapshot"
	"bourse/wire"
)

// The kinds of a journal's own frames.
const (
	kindHead    = 96
	kindPicture = 97
	kindSeal    = 98
)

const version = 1

// framed is the bytes of a frame whose words are these, and 0 behind them.
func framed(kind byte, words ...uint64) []byte {
	f := api.Frame{Kind: kind}
	copy(f.Words[:], words)
	raw := wire.Pack(f)
	return raw[:]
}

// head is how a journal begins: the book's config, the engine in which it begins, and whether a picture follows.
type head struct {
	config   api.Config
	engine   int
	pictured bool
}

func (h head) bytes() []byte {
	follows := uint64(0)
	if h.pictured {
		follows = 1
	}
	return framed(kindHead, version, uint64(h.config.Capacity), uint64(h.config.Meet), uint64(h.engine), follows)
}

// picture is the bytes of a book behind so many inputs.
func picture(x api.Book, count uint64) ([]byte, api.Errno) {
	book, why := snapshot.Encode(x)
	if why != api.OK {
		return nil, why
	}
	b := append(framed(kindPicture, uint64(len(book)), count, uint64(wire.Sum(book))), book...)
	if over := len(b) % api.FrameSize; over > 0 {
		b = append(b, make([]byte, api.FrameSize-over)...)
	}
	return b, api.OK
}
