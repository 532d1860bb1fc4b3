package journal

import (
	"bytes"
	"slices"

	"bourse/api"
	"bourse/message"
	"bourse/snapshot"
	"bourse/wire"
)

// What is read is written again, and held against the bytes that were handed in: whatever is not in the one form is found so.

// Open is the journal that bytes begin with, as far as they count: how many.
func Open(b []byte) (*Journal, int, api.Errno) {
	if len(b) > api.MaxLog {
		return nil, 0, api.ErrLong
	}
	j, why := begun(b)
	if why != api.OK {
		return nil, 0, why
	}
	for {
		at := len(j.log)
		// What can't be a batch is refused by Do, or is none.
		if _, why := j.Do(sealed(b[at:])); why != api.OK || len(j.log) == at {
			return j, at, api.OK
		}
		if !bytes.HasPrefix(b[at:], j.log[at:]) {
			// Only behind all that a batch tells is it known that its seal is wrong, and nothing of it can be taken back: without it, it is done anew.
			return Open(b[:at])
		}
	}
}

// begun is the journal of the head with which bytes begin, and of the picture.
func begun(b []byte) (*Journal, api.Errno) {
	h, ok := readHead(b)
	if !ok {
		return nil, api.ErrHead
	}
	j, why := New(h.config, h.engine)
	if why != api.OK {
		return nil, api.ErrHead
	}
	if h.pictured {
		return showing(h, b)
	}
	return j, api.OK
}

// readHead reads the head with which bytes begin, if one stands there.
func readHead(b []byte) (head, bool) {
	words := firstFrame(b).Words
	h := head{
		config:   api.Config{Capacity: int(words[1]), Meet: int(words[2])},
		engine:   int(words[3]),
		pictured: words[4] == 1,
	}
	return h, bytes.HasPrefix(b, h.bytes())
}

// firstFrame is the one with which bytes begin; where none stands it is zero.
func firstFrame(b []byte) api.Frame {
	frame, _ := wire.Unpack(b[:min(len(b), api.FrameSize)])
	return frame
}

// showing is the journal of a head, and of the picture that is to stand behind it.
func showing(h head, b []byte) (*Journal, api.Errno) {
	log := h.bytes()
	rest := b[len(log):]
	x, count, ok := readPicture(rest)
	if !ok || x.Config != h.config {
		return nil, api.ErrBook
	}
	shown, why := picture(x, count)
	if why != api.OK || !bytes.HasPrefix(rest, shown) {
		return nil, api.ErrBook
	}
	book, why := snapshot.Open(h.engine, x)
	if why != api.OK {
		return nil, why
	}
	log = append(log, shown...)
	return &Journal{log: log, from: len(log), book: book, engine: h.engine, seq: x.Seq, count: count}, api.OK
}

// readPicture reads the book of the picture with which bytes begin, and behind how many inputs it was, if there is a book.
func readPicture(b []byte) (api.Book, uint64, bool) {
	frame := firstFrame(b)
	book := b[min(len(b), api.FrameSize):]
	size := frame.Words[0]
	if size > uint64(len(book)) {
		return api.Book{}, 0, false
	}
	x, _, why := snapshot.Decode(book[:size])
	return x, frame.Words[1], why == api.OK
}

// sealed is the inputs ahead of the seal of the batch with which bytes begin; none, if there is no seal, or something else ahead of it.
func sealed(b []byte) []api.Input {
	var l []api.Input
	for raw := range slices.Chunk(b, api.FrameSize) {
		frame, why := wire.Unpack(raw)
		if why != api.OK {
			return nil
		}
		if frame.Kind == kindSeal {
			return l
		}
		i, why := message.Unpack(frame)
		if why != api.OK {
			return nil
		}
		l = append(l, i)
	}
	return nil
}
