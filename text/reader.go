package text

import "bourse/api"

// Reader takes bytes as they come, and gives out lines.
type Reader struct {
	held []byte
}

// NewReader makes a reader that holds nothing.
func NewReader() *Reader { return &Reader{} }

// Feed puts bytes behind those that are held, if there is room for all of them.
func (r *Reader) Feed(b []byte) api.Errno {
	if len(b) > api.MaxHeld-len(r.held) {
		return api.ErrLong
	}
	r.held = append(r.held, b...)
	return api.OK
}

// Next is the next line, if a whole one is there; false and OK: it waits for more.
func (r *Reader) Next() (string, []api.Tag, bool, api.Errno) {
	body, _, why := outline(r.held)
	switch why {
	case api.OK:
	case api.ErrShort:
		return "", nil, false, api.OK
	default:
		r.drop(feet(r.held))
		return "", nil, false, why
	}
	kind, l, _, why := readBody(r.held[body.from:body.to])
	// Where a line ends is sure, even if its fields are not: nothing within it is taken for a line's beginning.
	r.drop(body.end())
	return kind, l, why == api.OK, why
}

// Waiting is how many bytes are held.
func (r *Reader) Waiting() int { return len(r.held) }

// feet is the place, not the very beginning, where the next line may begin.
func feet(held []byte) int {
	for i := range len(held) {
		switch {
		case i == 0, held[i] != '8':
		case i == len(held)-1, held[i+1] == '=':
			return i
		}
	}
	return len(held)
}

// drop lets go of the first n bytes; where none is left, their memory goes too.
func (r *Reader) drop(n int) {
	r.held = r.held[n:]
	if len(r.held) == 0 {
		r.held = nil
	}
}
