package text_test

import (
	"bytes"
	"fmt"
	"math/big"
	"regexp"
	"slices"
	"strconv"
	"strings"
	"testing"

	"bourse/api"
	"bourse/text"
)

// The tests hold every answer against lines made by fmt and read by regexp, which no code of the package uses.

// mixer makes the same numbers in every run.
type mixer uint64

func (x *mixer) next() uint64 {
	*x += 0x9e3779b97f4a7c15
	n := uint64(*x)
	n = (n ^ n>>30) * 0xbf58476d1ce4e5b9
	n = (n ^ n>>27) * 0x94d049bb133111eb
	return n ^ n>>31
}

func (x *mixer) below(n int) int { return int(x.next() % uint64(n)) }

// of is bytes of a choice.
func (x *mixer) of(choice string, n int) string {
	b := make([]byte, n)
	for i := range b {
		b[i] = choice[x.below(len(choice))]
	}
	return string(b)
}

// bars makes the byte 1 of each bar, as in the document's examples.
func bars(s string) string { return strings.ReplaceAll(s, "|", "\x01") }

const letters = "ABCDEFGHIJKLMNOPQRSTUVWXYZabcdefghijklmnopqrstuvwxyz0123456789"

// printed are all bytes that a value may have.
func printed() string {
	var b []byte
	for c := 32; c <= 126; c++ {
		b = append(b, byte(c))
	}
	return string(b)
}

// fields are some that can be.
func (x *mixer) fields() []api.Tag {
	var l []api.Tag
	all := printed()
	for range x.below(9) {
		tag := 1 + x.below(9999)
		if x.below(2) == 0 {
			tag = 1 + x.below(60)
		}
		if reserved(tag) || slices.ContainsFunc(l, func(f api.Tag) bool { return f.Tag == tag }) {
			continue
		}
		l = append(l, api.Tag{Tag: tag, Value: x.of(all, 1+x.below(20))})
	}
	return l
}

func (x *mixer) kind() string { return x.of(letters, 1+x.below(2)) }

func reserved(tag int) bool { return slices.Contains([]int{8, 9, 10, 35}, tag) }

func sum(s string) int {
	n := 0
	for _, c := range []byte(s) {
		n += int(c)
	}
	return n % 256
}

// closed puts the field of the sum behind.
func closed(s string) string { return s + fmt.Sprintf("10=%03d\x01", sum(s)) }

// bodied is the line of a body, sound or not.
func bodied(body string) string {
	return closed(fmt.Sprintf("8=BRS.1\x019=%d\x01%s", len(body), body))
}

// laid is a line by the document's words.
func laid(kind string, l []api.Tag) string {
	body := fmt.Sprintf("35=%s\x01", kind)
	for _, f := range l {
		body += fmt.Sprintf("%d=%s\x01", f.Tag, f.Value)
	}
	return bodied(body)
}

// told is what is told of bytes.
type told struct {
	kind string
	l    []api.Tag
	at   int
	why  api.Errno
}

func (a told) same(b told) bool {
	return a.kind == b.kind && slices.Equal(a.l, b.l) && a.at == b.at && a.why == b.why
}

var (
	isKind   = regexp.MustCompile(`\A[A-Za-z0-9]{1,2}\z`)
	isValue  = regexp.MustCompile(`\A[ -~]+\z`)
	isNumber = regexp.MustCompile(`\A(0|[1-9][0-9]*)\z`)
	isTag    = regexp.MustCompile(`\A(0|[1-9][0-9]{0,3})\z`)
	isTrail  = regexp.MustCompile(`\A10=[0-9]{3}\x01\z`)
	length   = regexp.MustCompile(`\A[0-9]{0,5}`)
)

// wantedField is what the step 7 asks of a field behind others.
func wantedField(ahead []api.Tag, f api.Tag) api.Errno {
	for _, a := range ahead {
		if a.Tag == f.Tag {
			return api.ErrTag
		}
	}
	switch {
	case f.Tag < 1 || f.Tag > 9999 || reserved(f.Tag):
		return api.ErrTag
	case !isValue.MatchString(f.Value):
		return api.ErrValue
	}
	return api.OK
}

// wantedEncode is what P3.2 asks.
func wantedEncode(kind string, l []api.Tag) (string, api.Errno) {
	if !isKind.MatchString(kind) {
		return "", api.ErrForm
	}
	if len(l) > 64 {
		return "", api.ErrLong
	}
	for i, f := range l {
		if why := wantedField(l[:i], f); why != api.OK {
			return "", why
		}
	}
	s := laid(kind, l)
	if len(s) > 2048 {
		return "", api.ErrLong
	}
	return s, api.OK
}

// wanted is what P3.3 asks, and which of its steps tells an error.
func wanted(s string) (told, int) {
	begin := "8=BRS.1\x019="
	for i := 0; i < len(begin); i++ {
		if i == len(s) {
			return told{at: i, why: api.ErrShort}, 1
		}
		if s[i] != begin[i] {
			return told{at: i, why: api.ErrForm}, 1
		}
	}
	digits := length.FindString(s[10:])
	head := 10 + len(digits) + 1
	if head-1 == len(s) {
		return told{at: len(s), why: api.ErrShort}, 2
	}
	if len(digits) == 5 || !isNumber.MatchString(digits) || s[head-1] != 1 {
		return told{at: 10, why: api.ErrForm}, 2
	}
	n, _ := strconv.Atoi(digits)
	if head+n+7 > 2048 {
		return told{at: 10, why: api.ErrLong}, 3
	}
	if len(s) < head+n+7 {
		return told{at: len(s), why: api.ErrShort}, 4
	}
	p := head + n
	trail := s[p : p+7]
	if !isTrail.MatchString(trail) || n == 0 || s[p-1] != 1 {
		return told{at: p, why: api.ErrBody}, 5
	}
	if trail != fmt.Sprintf("10=%03d\x01", sum(s[:p])) {
		return told{at: p, why: api.ErrTrail}, 6
	}
	return wantedBody(s[:p], head), 7
}

func wantedBody(s string, at int) told {
	out := told{at: len(s) + 7}
	for i, field := range strings.SplitAfter(s[at:], "\x01") {
		if field == "" {
			break
		}
		tag, value, ok := strings.Cut(strings.TrimSuffix(field, "\x01"), "=")
		n, _ := strconv.Atoi(tag)
		f := api.Tag{Tag: n, Value: value}
		switch {
		case !ok || !isTag.MatchString(tag):
			return told{at: at, why: api.ErrForm}
		case i == 0 && (n != 35 || !isKind.MatchString(value)):
			return told{at: at, why: api.ErrForm}
		case i == 0:
			out.kind = value
		case len(out.l) == 64:
			return told{at: at, why: api.ErrLong}
		default:
			if why := wantedField(out.l, f); why != api.OK {
				return told{at: at, why: why}
			}
			out.l = append(out.l, f)
		}
		at += len(field)
	}
	return out
}

// spare is bytes with room behind them whose content would show a change.
func spare(s string) []byte {
	return append([]byte(s), "\xa5\xa5\xa5\xa5\xa5\xa5\xa5\xa5"...)[:len(s)]
}

// untouched: whether spare bytes are as they were.
func untouched(b []byte, s string) bool {
	return string(b) == s && bytes.Equal(b[len(b):len(b)+8], bytes.Repeat([]byte{0xa5}, 8))
}

// decoded holds Decode against what is wanted.
func decoded(t *testing.T, s string) told {
	t.Helper()
	b := spare(s)
	var got told
	got.kind, got.l, got.at, got.why = text.Decode(b)
	if want, _ := wanted(s); !got.same(want) {
		t.Fatalf("Decode of %q: wanted %v, got %v", s, want, got)
	}
	if !untouched(b, s) {
		t.Fatalf("Decode changed %q to %q", s, b[:len(b)+8])
	}
	return got
}

// encoded holds Encode against what is wanted.
func encoded(t *testing.T, kind string, l []api.Tag) (string, api.Errno) {
	t.Helper()
	room := append(slices.Clone(l), api.Tag{Tag: -7, Value: "spare"})
	b, why := text.Encode(kind, room[:len(l)])
	want, wantWhy := wantedEncode(kind, l)
	if string(b) != want || why != wantWhy {
		t.Fatalf("Encode(%q, %v): wanted %q %v, got %q %v", kind, l, want, wantWhy, b, why)
	}
	if !slices.Equal(room[:len(l)], l) || room[len(l)] != (api.Tag{Tag: -7, Value: "spare"}) {
		t.Fatalf("Encode changed %v to %v", l, room)
	}
	return string(b), why
}

// wantedNumber is what P3.4 asks of a value.
func wantedNumber(s string) (uint64, api.Errno) {
	n, ok := new(big.Int).SetString(s, 10)
	if !ok || !isNumber.MatchString(s) || !n.IsUint64() {
		return 0, api.ErrValue
	}
	return n.Uint64(), api.OK
}
