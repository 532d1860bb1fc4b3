package message_test

import (
	"fmt"
	"slices"
	"strings"
	"testing"

	"bourse/api"
	"bourse/message"
)

func TestP4_2Examples(t *testing.T) {
	for _, c := range []struct {
		f    api.Frame
		want api.Errno
	}{
		{api.Frame{Kind: 2, Words: [7]uint64{0, 7, 0, 0, 0, 1}}, api.ErrField},
		{api.Frame{Kind: 2, Words: [7]uint64{0, 7}}, api.OK},
		{api.Frame{Kind: 65}, api.ErrMessage},
		{api.Frame{}, api.ErrMessage},
	} {
		if _, why := unpacked(t, false, c.f); why != c.want {
			t.Error(c.f, why)
		}
		holdFrame(t, c.f)
	}
}

// Frames of all kinds: without a word, and with each one bit of all words.
func TestP4_2Bits(t *testing.T) {
	for kind := range 256 {
		f := api.Frame{Kind: byte(kind)}
		holdFrame(t, f)
		for word := range f.Words {
			for bit := range 64 {
				f.Words = [7]uint64{}
				f.Words[word] = 1 << bit
				holdFrame(t, f)
			}
		}
	}
}

// Frames that can be, with a bit more or less, or of another kind.
func TestP4_2Spoilt(t *testing.T) {
	x := mixer(4)
	for _, r := range rows {
		for range 300 {
			f := r.framed(r.any(&x))
			holdFrame(t, f)
			f.Words[x.below(7)] ^= 1 << x.below(64)
			holdFrame(t, f)
			f.Kind = byte(x.below(80))
			holdFrame(t, f)
			for i := range f.Words {
				f.Words[i] = x.next() >> x.below(64)
			}
			f.Kind = r.frame
			holdFrame(t, f)
		}
	}
}

func TestP4_3Examples(t *testing.T) {
	for _, c := range []struct {
		line string
		want api.Errno
	}{
		{laid("F", "41=7"), api.OK},
		{laid("F", "41=7", "11=0"), api.ErrField},
		{laid("F", "41=07"), api.ErrField},
		{laid("X"), api.ErrMessage},
		{laid("8", "34=9", "150=3", "11=3", "37=1", "54=1", "44=10", "38=5"), api.ErrMessage},
	} {
		if _, _, why := read(t, false, c.line); why != c.want {
			t.Errorf("%q: %v", c.line, why)
		}
		holdLine(t, c.line)
	}
}

// What is wrong with a line as a line is told as text.Decode tells it, with its place.
func TestP4_3NoLine(t *testing.T) {
	for _, r := range rows {
		x := mixer(5)
		s := r.lined(r.any(&x))
		for n := range len(s) {
			if _, at, why := read(t, r.event(), s[:n]); at != n || why != api.ErrShort {
				t.Fatalf("%q: %d %v", s[:n], at, why)
			}
			for _, c := range []byte("0123456789\x01=xD|\x00~") {
				b := []byte(s)
				b[n] = c
				holdLine(t, string(b))
				holdLine(t, string(b[:n+1]))
			}
		}
		holdLine(t, s+s)
		holdLine(t, s+"behind")
	}
	for _, s := range []string{"", "8=FIX", "zz", laid("F", "41=7", "41=7"), laid("F", "41="), laid("F", "8=1"), laid("", "41=7"), laid("F", "41"), laid("FFF", "41=7"), strings.Replace(laid("F", "41=7"), "10=", "10=9", 1)} {
		holdLine(t, s)
		if _, _, why := read(t, false, s); why == api.OK || why == api.ErrField || why == api.ErrMessage {
			t.Errorf("%q: %v", s, why)
		}
	}
	// The place is the one of Decode, here that of the field that is there twice.
	if _, at, why := read(t, false, laid("F", "41=7", "41=7")); at != 23 || why != api.ErrTag {
		t.Error(at, why)
	}
}

func TestP4_3Kinds(t *testing.T) {
	const letters = "ABCDEFGHIJKLMNOPQRSTUVWXYZabcdefghijklmnopqrstuvwxyz0123456789"
	x := mixer(6)
	var fields [][]string
	for _, r := range rows {
		fields = append(fields, cut(r.lined(r.any(&x))))
	}
	for _, c := range letters {
		for _, d := range letters + "\x00" {
			kind := strings.TrimRight(string([]rune{c, d}), "\x00")
			for _, l := range fields {
				holdLine(t, laid(kind, l...))
			}
			holdLine(t, laid(kind))
		}
	}
}

// The second field tells which event it is, by one text alone.
func TestP4_3WhichEvent(t *testing.T) {
	for _, c := range []struct {
		fields []string
		want   api.Errno
	}{
		{[]string{"34=9", "150=5", "11=1", "44=2", "38=3"}, api.OK},
		{nil, api.ErrMessage},
		{[]string{"150=3"}, api.ErrMessage},
		{[]string{"34=9"}, api.ErrMessage},
		{[]string{"150=5", "34=9", "11=1", "44=2", "38=3"}, api.ErrMessage},
		{[]string{"34=9", "11=1", "150=5", "44=2", "38=3"}, api.ErrMessage},
		{[]string{"34=9", "151=5", "11=1", "44=2", "38=3"}, api.ErrMessage},
		{[]string{"34=9", "150=0", "11=1", "44=2", "38=3"}, api.ErrMessage},
		{[]string{"34=9", "150=6", "11=1", "44=2", "38=3"}, api.ErrMessage},
		{[]string{"34=9", "150=05", "11=1", "44=2", "38=3"}, api.ErrMessage},
		{[]string{"34=9", "150=55", "11=1", "44=2", "38=3"}, api.ErrMessage},
		{[]string{"34=9", "150=261", "11=1", "44=2", "38=3"}, api.ErrMessage},
		{[]string{"34=9", "150=-1", "11=1", "44=2", "38=3"}, api.ErrMessage},
		{[]string{"34=9", "150=x", "11=1", "44=2", "38=3"}, api.ErrMessage},
		{[]string{"34=9", "150=18446744073709551617", "11=1", "44=2", "38=3"}, api.ErrMessage},
		{[]string{"34=x", "150=x"}, api.ErrMessage},
		{[]string{"34=9", "150=5"}, api.ErrField},
		{[]string{"35=9", "150=5", "11=1", "44=2", "38=3"}, api.ErrTag},
		{[]string{"11=1", "150=5", "34=9", "44=2", "38=3"}, api.ErrField},
		{[]string{"41=1", "150=2", "11=9", "103=3"}, api.ErrField},
		{[]string{"34=9", "150=4", "11=1", "44=2", "38=3"}, api.ErrField},
	} {
		s := laid("8", c.fields...)
		if _, _, why := read(t, true, s); why != c.want {
			t.Errorf("%q: %v, wanted %v", s, why, c.want)
		}
		holdLine(t, s)
	}
}

// A line that can be, with its fields changed: left out, doubled, turned about, another one put in, another value.
func TestP4_3Changed(t *testing.T) {
	x := mixer(7)
	values := []string{"0", "00", "07", "+1", "-1", " 1", "1 ", "1.0", "x", "255", "256", "0255", "257", "4294967295", "4294967296", "4294967297", "9223372036854775807", "9223372036854775808", "18446744073709551615", "18446744073709551616", "18446744073709551617", "18446744069414584321", "99999999999999999999999", "1e3", "0x1", "1_000"}
	for _, r := range rows {
		for range 30 {
			l := cut(r.lined(r.any(&x)))
			for i, f := range l {
				tag, _, _ := strings.Cut(f, "=")
				for _, v := range values {
					changed := slices.Clone(l)
					changed[i] = tag + "=" + v
					holdLine(t, laid(r.line, changed...))
				}
				holdLine(t, laid(r.line, slices.Delete(slices.Clone(l), i, i+1)...))
				holdLine(t, laid(r.line, l[:i]...))
				for j := range l {
					changed := slices.Clone(l)
					changed[i], changed[j] = changed[j], changed[i]
					holdLine(t, laid(r.line, changed...))
				}
				for _, other := range []string{"11=0", "41=0", "1=0", "150=1", "9001=0", "34=0", "77=0", "210=0", "378=0"} {
					holdLine(t, laid(r.line, slices.Insert(slices.Clone(l), i, other)...))
				}
			}
			holdLine(t, laid(r.line, append(l, "77=1")...))
			holdLine(t, laid(r.line, append(l, fmt.Sprintf("%d=0", tags["Reason"]))...))
		}
	}
}

func TestP4_4OneForm(t *testing.T) {
	x := mixer(8)
	for _, r := range rows {
		for range 300 {
			m := r.any(&x)
			f, line, _ := told(t, r, m)
			if got, why := unpacked(t, r.event(), f); got != m || why != api.OK {
				t.Fatalf("%+v: back %+v %v", m, got, why)
			}
			got, n, why := read(t, r.event(), line+"8=BRS")
			if got != m || n != len(line) || why != api.OK {
				t.Fatalf("%+v: back %+v %d %v", m, got, n, why)
			}
		}
	}
	// And of whatever is taken, the writer makes the same again.
	taken := 0
	for range 200000 {
		f := api.Frame{Kind: rows[x.below(len(rows))].frame}
		for range 1 + x.below(2) {
			f.Words[x.below(7)] |= 1 << x.below(64)
		}
		event := f.Kind > 64
		m, why := unpacked(t, event, f)
		if why != api.OK {
			continue
		}
		taken++
		again := api.Frame{}
		if event {
			again, _ = message.PackEvent(m.event)
		} else {
			again, _ = message.Pack(m.input)
		}
		if again != f {
			t.Fatalf("%v: again %v", f, again)
		}
	}
	if taken < 1000 {
		t.Error("taken only", taken)
	}
}

// No frame and no line is both an input's and an event's.
func TestP4_6Apart(t *testing.T) {
	x := mixer(9)
	for _, r := range rows {
		for range 100 {
			m := r.any(&x)
			f, line, _ := told(t, r, m)
			if _, why := unpacked(t, !r.event(), f); why != api.ErrMessage {
				t.Errorf("%v: %v", f, why)
			}
			if _, n, why := read(t, !r.event(), line); n != 0 || why != api.ErrMessage {
				t.Errorf("%q: %d %v", line, n, why)
			}
		}
	}
}
