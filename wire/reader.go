package wire

import (
	"iter"
	"slices"

	"bourse/api"
)

// All goes through the frames of bytes: each one, or what is wrong with it.
func All(b []byte) iter.Seq2[api.Frame, api.Errno] {
	return func(yield func(api.Frame, api.Errno) bool) {
		// Whoever goes through may change b meanwhile, and must not see it.
		rest := slices.Clone(b)
		for len(rest) > 0 {
			n := min(len(rest), api.FrameSize)
			if !yield(Unpack(rest[:n])) {
				return
			}
			rest = rest[n:]
		}
	}
}

// Reader reads frames from pieces of bytes.
type Reader struct {
	held []byte
}

// NewReader makes a reader to which nothing came.
func NewReader() *Reader { return &Reader{} }

// Feed puts a piece behind those that came.
func (r *Reader) Feed(b []byte) {
	r.held = append(r.held, b...)
}

// Next is the next whole frame, or what is wrong with it; false: none is whole.
func (r *Reader) Next() (api.Frame, api.Errno, bool) {
	if len(r.held) < api.FrameSize {
		return api.Frame{}, api.OK, false
	}
	f, why := Unpack(r.held[:api.FrameSize])
	r.drop(api.FrameSize)
	return f, why, true
}

// Left is how many bytes came and were not read.
func (r *Reader) Left() int { return len(r.held) }

// Close drops the bytes that came and were not read: ErrShort, if there were any.
func (r *Reader) Close() api.Errno {
	if len(r.held) == 0 {
		return api.OK
	}
	r.drop(len(r.held))
	return api.ErrShort
}

// drop takes the first n bytes out; where none is left, their memory goes too.
func (r *Reader) drop(n int) {
	r.held = r.held[n:]
	if len(r.held) == 0 {
		r.held = nil
	}
}
