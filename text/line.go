package text

import (
	"strings"

	"bourse/api"
)

// The tags that make a line: no other field may have them.
const (
	tagBegin  = 8
	tagLength = 9
	tagSum    = 10
	tagKind   = 35
)

const (
	mark      = 1               // the byte behind each field
	beginning = "8=BRS.1\x019=" // up to the length
	maxDigits = 5               // of the length: so many are too many
	tagDigits = 4               // of MaxTag
	trailForm = "10=000\x01"
	trailSize = len(trailForm)
)

// Encode makes a line of a kind and fields.
func Encode(kind string, l []api.Tag) ([]byte, api.Errno) {
	switch {
	case !isKind(kind):
		return nil, api.ErrForm
	case len(l) > api.MaxFields:
		return nil, api.ErrLong
	}
	first := api.Tag{Tag: tagKind, Value: kind}
	size := fieldSize(first)
	for i, f := range l {
		if why := fits(l[:i], f); why != api.OK {
			return nil, why
		}
		size += fieldSize(f)
	}
	head := beginning + Decimal(uint64(size))
	whole := len(head) + 1 + size + trailSize
	if whole > api.MaxLine {
		return nil, api.ErrLong
	}
	b := make([]byte, 0, whole)
	b = append(b, head...)
	b = append(b, mark)
	b = appendField(b, first)
	for _, f := range l {
		b = appendField(b, f)
	}
	return append(b, trail(b)...), api.OK
}

// fieldSize is how many bytes a field has.
func fieldSize(f api.Tag) int {
	return len(Decimal(uint64(f.Tag))) + len("=") + len(f.Value) + 1
}

func appendField(b []byte, f api.Tag) []byte {
	b = append(b, Decimal(uint64(f.Tag))...)
	b = append(b, '=')
	b = append(b, f.Value...)
	return append(b, mark)
}

// trail is the field with the check sum of all bytes ahead of it.
func trail(ahead []byte) string {
	digits := Decimal(uint64(1000 + Sum(ahead)))[1:]
	return "10=" + digits + "\x01"
}

// Decode reads the line with which bytes begin: its kind, its fields, how many bytes it has; with an error the place of it.
func Decode(b []byte) (string, []api.Tag, int, api.Errno) {
	body, place, why := outline(b)
	if why != api.OK {
		return "", nil, place, why
	}
	kind, l, place, why := readBody(b[body.from:body.to])
	if why != api.OK {
		return "", nil, body.from + place, why
	}
	return kind, l, body.end(), api.OK
}

// span is where a line's body stands.
type span struct {
	from, to int
}

// end is where the line ends.
func (s span) end() int { return s.to + trailSize }

// outline finds the body of the line with which bytes begin, if all around it is sound; with an error its place.
func outline(b []byte) (span, int, api.Errno) {
	if place, why := readBeginning(b); why != api.OK {
		return span{}, place, why
	}
	body, place, why := readLength(b)
	if why != api.OK {
		return span{}, place, why
	}
	if len(b) < body.end() {
		return span{}, len(b), api.ErrShort
	}
	found := string(b[body.to:body.end()])
	switch {
	case !isTrail(found), body.from == body.to, b[body.to-1] != mark:
		return span{}, body.to, api.ErrBody
	case found != trail(b[:body.to]):
		return span{}, body.to, api.ErrTrail
	}
	return body, 0, api.OK
}

// readBeginning holds bytes against the one beginning of all lines.
func readBeginning(b []byte) (int, api.Errno) {
	for i := range len(beginning) {
		switch {
		case i == len(b):
			return i, api.ErrShort
		case b[i] != beginning[i]:
			return i, api.ErrForm
		}
	}
	return 0, api.OK
}

// readLength reads the length behind the beginning: where the body would stand by it.
func readLength(b []byte) (span, int, api.Errno) {
	at := len(beginning)
	stop := at + digits(b[at:])
	if stop == len(b) {
		return span{}, stop, api.ErrShort
	}
	size, ok := number(string(b[at:stop]))
	if !ok || stop-at == maxDigits || b[stop] != mark {
		return span{}, at, api.ErrForm
	}
	body := span{from: stop + 1, to: stop + 1 + int(size)}
	if body.end() > api.MaxLine {
		return span{}, at, api.ErrLong
	}
	return body, 0, api.OK
}

// digits is how many decimal digits bytes begin with, maxDigits at most.
func digits(b []byte) int {
	for i := range maxDigits {
		if i == len(b) || !isDigit(b[i]) {
			return i
		}
	}
	return maxDigits
}

// isTrail: whether seven bytes are a check sum's field; the zeros of its form stand for whatever digits.
func isTrail(s string) bool {
	for i := range len(s) {
		switch {
		case i >= 3 && i <= 5 && isDigit(s[i]):
		case s[i] != trailForm[i]:
			return false
		}
	}
	return true
}

// readBody reads a body's fields: the kind that the first one tells, and the others; with an error the place where its field begins.
func readBody(body []byte) (string, []api.Tag, int, api.Errno) {
	var kind string
	var l []api.Tag
	begins := 0
	for i := range len(body) {
		if body[i] != mark {
			continue
		}
		f, ok := readField(string(body[begins:i]))
		why := api.OK
		switch {
		case !ok:
			why = api.ErrForm
		case begins == 0:
			kind, why = kindOf(f)
		case len(l) == api.MaxFields:
			why = api.ErrLong
		default:
			why = fits(l, f)
			l = append(l, f)
		}
		if why != api.OK {
			return "", nil, begins, why
		}
		begins = i + 1
	}
	return kind, l, 0, api.OK
}

// readField cuts a field into its tag and its value; false: it has no tag.
func readField(s string) (api.Tag, bool) {
	head, value, ok := strings.Cut(s, "=")
	if !ok || len(head) > tagDigits {
		return api.Tag{}, false
	}
	tag, ok := number(head)
	return api.Tag{Tag: int(tag), Value: value}, ok
}

// kindOf is the kind that a body's first field tells.
func kindOf(f api.Tag) (string, api.Errno) {
	if f.Tag != tagKind || !isKind(f.Value) {
		return "", api.ErrForm
	}
	return f.Value, api.OK
}
