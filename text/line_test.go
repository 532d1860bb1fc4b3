package text_test

import (
	"fmt"
	"slices"
	"strings"
	"testing"

	"bourse/api"
	"bourse/text"
)

// The document's example shows the sum 140; by its words (all bytes ahead, modulo 256) it is 67.
const example = "8=BRS.1\x019=15\x0135=D\x0111=7\x0155=A\x0110=067\x01"

func TestP3_3Example(t *testing.T) {
	for _, c := range []struct {
		in   string
		at   int
		want api.Errno
	}{
		{example, len(example), api.OK},
		{example + "behind", len(example), api.OK},
		{example[:len(example)-1], len(example) - 1, api.ErrShort},
		{strings.Replace(example, "10=067", "10=068", 1), 28, api.ErrTrail},
		{strings.Replace(example, "9=15", "9=14", 1), 27, api.ErrBody},
		{strings.Replace(example, "9=15", "9=015", 1), 10, api.ErrForm},
		{"8=FIX", 2, api.ErrForm},
		{"", 0, api.ErrShort},
	} {
		if got := decoded(t, c.in); got.at != c.at || got.why != c.want {
			t.Errorf("%q: %v", c.in, got)
		}
	}
	got := decoded(t, example)
	if got.kind != "D" || !slices.Equal(got.l, []api.Tag{{Tag: 11, Value: "7"}, {Tag: 55, Value: "A"}}) {
		t.Error(got)
	}
}

// Each beginning of a line waits for more, at its end.
func TestP3_3Short(t *testing.T) {
	x := mixer(4)
	for range 40 {
		s := laid(x.kind(), x.fields())
		for n := range len(s) {
			if got := decoded(t, s[:n]); got.why != api.ErrShort || got.at != n {
				t.Fatalf("%q: %v", s[:n], got)
			}
		}
	}
}

// Each byte of a line, changed in each way, with its sum made to fit or not.
func TestP3_3EachByte(t *testing.T) {
	for _, s := range []string{example, laid("0", nil), laid("zz", []api.Tag{{Tag: 9999, Value: "~ ="}, {Tag: 1, Value: "1=1"}})} {
		for i := range len(s) {
			for c := range 256 {
				b := []byte(s)
				b[i] = byte(c)
				decoded(t, string(b))
				decoded(t, string(b[:i+1]))
				decoded(t, closed(string(b[:len(b)-7])))
			}
		}
	}
}

func TestP3_3Lengths(t *testing.T) {
	body := "35=D\x0111=7\x01"
	lengths := []string{"", "0", "00", "5", "10", "010", "9", "11", "1", "0010", "00010", "12345", "99999", "00000", "123456", "9999", "2028", "2029", "2030", "1000", "2048", "-10", "+10", " 10", "1 0", "x", "10x", "1\x010"}
	for n := 2010; n < 2060; n++ {
		lengths = append(lengths, fmt.Sprint(n))
	}
	for _, l := range lengths {
		head := "8=BRS.1\x019=" + l
		decoded(t, head)
		decoded(t, head+"\x01")
		decoded(t, head+"2")
		decoded(t, closed(head+"\x01"))
		decoded(t, closed(head+"\x01"+body))
		decoded(t, closed(head+"x"+body))
		decoded(t, closed(head+"\x01"+strings.Repeat(body, 400)))
	}
	for in, want := range map[string]told{
		"12345":     {at: 15, why: api.ErrShort},
		"12345\x01": {at: 10, why: api.ErrForm},
		"0123":      {at: 14, why: api.ErrShort},
		"0123\x01":  {at: 10, why: api.ErrForm},
		"0\x01":     {at: 12, why: api.ErrShort},
		"\x01":      {at: 10, why: api.ErrForm},
		"2027\x01":  {at: 10, why: api.ErrLong},
		"2026\x01":  {at: 15, why: api.ErrShort},
		"9999\x01":  {at: 10, why: api.ErrLong},
	} {
		if got := decoded(t, "8=BRS.1\x019="+in); !got.same(want) {
			t.Errorf("%q: wanted %v, got %v", in, want, got)
		}
	}
}

func TestP3_3Trails(t *testing.T) {
	for _, c := range []struct {
		in   string
		at   int
		want api.Errno
	}{
		{bars("8=BRS.1|9=0|10=000|"), 12, api.ErrBody},
		{closed(bars("8=BRS.1|9=0|")), 12, api.ErrBody},
		{closed(bars("8=BRS.1|9=4|35=D")), 16, api.ErrBody},
		{bars("8=BRS.1|9=4|35=D10=000|"), 16, api.ErrBody},
		{bars("8=BRS.1|9=5|35=D|11=000|"), 17, api.ErrBody},
		{bars("8=BRS.1|9=5|35=D|10=0x0|"), 17, api.ErrBody},
		{bars("8=BRS.1|9=5|35=D|10=0000"), 17, api.ErrBody},
		{bars("8=BRS.1|9=5|35=D|10=999|"), 17, api.ErrTrail},
		{bars("8=BRS.1|9=5|xx=D|10=999|"), 17, api.ErrTrail},
	} {
		if got := decoded(t, c.in); got.at != c.at || got.why != c.want {
			t.Errorf("%q: %v", c.in, got)
		}
	}
	s := laid("D", nil)
	p := len(s) - 7
	for n := range 1000 {
		decoded(t, s[:p]+fmt.Sprintf("10=%03d\x01", n))
	}
	// A sum of all values is written with three digits.
	for c := 32; c <= 126; c++ {
		for d := 32; d <= 126; d += 7 {
			s, _ := encoded(t, "D", []api.Tag{{Tag: 11, Value: string([]byte{byte(c), byte(d)})}})
			if got := decoded(t, s); got.why != api.OK {
				t.Fatalf("%q: %v", s, got)
			}
		}
	}
}

func TestP3_3Bodies(t *testing.T) {
	for _, c := range []struct {
		body string
		at   int // within the body
		want api.Errno
	}{
		{"|", 0, api.ErrForm},
		{"=|", 0, api.ErrForm},
		{"35|", 0, api.ErrForm},
		{"35=|", 0, api.ErrForm},
		{"35=abc|", 0, api.ErrForm},
		{"35=a-|", 0, api.ErrForm},
		{"35==|", 0, api.ErrForm},
		{"035=D|", 0, api.ErrForm},
		{"3=D|", 0, api.ErrForm},
		{"11=7|35=D|", 0, api.ErrForm},
		{"8=D|", 0, api.ErrForm},
		{"0=D|", 0, api.ErrForm},
		{"35=D||", 5, api.ErrForm},
		{"35=D|11|", 5, api.ErrForm},
		{"35=D|=7|", 5, api.ErrForm},
		{"35=D|x=7|", 5, api.ErrForm},
		{"35=D|1x=7|", 5, api.ErrForm},
		{"35=D| 1=7|", 5, api.ErrForm},
		{"35=D|+1=7|", 5, api.ErrForm},
		{"35=D|-1=7|", 5, api.ErrForm},
		{"35=D|011=7|", 5, api.ErrForm},
		{"35=D|00=7|", 5, api.ErrForm},
		{"35=D|0011=7|", 5, api.ErrForm},
		{"35=D|10000=7|", 5, api.ErrForm},
		{"35=D|99999999999999999999=7|", 5, api.ErrForm},
		{"35=D|0=7|", 5, api.ErrTag},
		{"35=D|0=|", 5, api.ErrTag},
		{"35=D|8=7|", 5, api.ErrTag},
		{"35=D|9=7|", 5, api.ErrTag},
		{"35=D|10=140|", 5, api.ErrTag},
		{"35=D|35=D|", 5, api.ErrTag},
		{"35=D|11=7|11=7|", 10, api.ErrTag},
		{"35=D|11=7|12=8|11=|", 15, api.ErrTag},
		{"35=D|11=|", 5, api.ErrValue},
		{"35=D|11=\x1f|", 5, api.ErrValue},
		{"35=D|11=\x7f|", 5, api.ErrValue},
		{"35=D|11=\xff|", 5, api.ErrValue},
		{"35=D|11=a\x00b|", 5, api.ErrValue},
		{"35=D|11=7|12=|13|", 10, api.ErrValue},
		{"35=D|11=7|12|13=|", 10, api.ErrForm},
	} {
		s := bodied(bars(c.body))
		head := len(s) - 7 - len(c.body)
		if got := decoded(t, s+"behind"); got.at != head+c.at || got.why != c.want {
			t.Errorf("%q: %v, wanted %v at %d", c.body, got, c.want, head+c.at)
		}
	}
	got := decoded(t, bodied(bars("35=00|11==|9999= = |1=~|")))
	if !got.same(told{"00", []api.Tag{{Tag: 11, Value: "="}, {Tag: 9999, Value: " = "}, {Tag: 1, Value: "~"}}, got.at, api.OK}) {
		t.Error(got)
	}
}

// A field is too many ahead of what is wrong with its tag and its value, but not ahead of its form.
func TestP3_3ManyFields(t *testing.T) {
	body := "35=D\x01"
	for i := range 64 {
		body += fmt.Sprintf("%d=v\x01", 100+i)
	}
	if got := decoded(t, bodied(body)); got.why != api.OK || len(got.l) != 64 {
		t.Error(got)
	}
	at := len("8=BRS.1|9=000|") + len(body)
	for field, want := range map[string]api.Errno{
		"99=v":  api.ErrLong,
		"100=v": api.ErrLong,
		"8=v":   api.ErrLong,
		"0=":    api.ErrLong,
		"99=":   api.ErrLong,
		"v":     api.ErrForm,
		"099=v": api.ErrForm,
		"":      api.ErrForm,
	} {
		if got := decoded(t, bodied(body+field+"\x01")); got.why != want || got.at != at {
			t.Errorf("%q: %v, wanted %v at %d", field, got, want, at)
		}
	}
}

// Bytes of a few kinds, which come near to lines.
func TestP3_3AnyBytes(t *testing.T) {
	x := mixer(5)
	reached := map[int]int{}
	for range 20000 {
		s := x.body()
		switch x.below(8) {
		case 0:
			s = bodied(s) + x.of("89=\x01", x.below(4))
		case 1:
			s = closed(fmt.Sprintf("8=BRS.1\x019=%d\x01%s", x.below(40), s))
		case 2:
			s = bodied(s)
			s = s[:len(s)-1-x.below(7)] + x.of("0123456789=\x01", x.below(7))
		case 3:
			s = "8=BRS.1\x019=" + x.of("0123456789\x01", x.below(7)) + s
		case 4:
			s = x.of("8=BRS.1\x01", x.below(9))
		default:
			s = bodied(s)
		}
		got := decoded(t, s)
		if _, step := wanted(s); got.why != api.OK {
			reached[step*100+int(got.why)]++
		}
	}
	for _, want := range []int{103, 120, 203, 220, 302, 420, 532, 633, 703, 730, 731} {
		if reached[want] == 0 {
			t.Error("no bytes came to", want)
		}
	}
}

// body is bytes that come near to a body.
func (x *mixer) body() string {
	s := ""
	if x.below(8) > 0 {
		s = "35=" + x.of("AZaz09-", 1+x.below(20)/9) + "\x01"
	}
	for range x.below(5) {
		s += x.of("0123589", 1+x.below(7)/3) + "=" + x.of("09az ~=\x1f", 1+x.below(3)) + "\x01"
	}
	if x.below(6) == 0 {
		s += x.of("1=\x01", x.below(4))
	}
	return s
}

func TestP3_3NewMemory(t *testing.T) {
	b := []byte(example)
	kind, l, _, _ := text.Decode(b)
	_, other, _, _ := text.Decode(b)
	clear(b)
	if kind != "D" || !slices.Equal(l, []api.Tag{{Tag: 11, Value: "7"}, {Tag: 55, Value: "A"}}) {
		t.Error("the answer is the argument's memory:", kind, l)
	}
	clear(l[:cap(l)])
	if len(other) != 2 || other[0].Value != "7" {
		t.Error("two answers share memory:", other)
	}
}

func TestP3_7OneForm(t *testing.T) {
	x := mixer(6)
	for range 2000 {
		kind, l := x.kind(), x.fields()
		s, why := encoded(t, kind, l)
		if why != api.OK {
			t.Fatal(kind, l, why)
		}
		if got := decoded(t, s+x.of("8=\x01z", x.below(9))); !got.same(told{kind, l, len(s), api.OK}) {
			t.Fatalf("%q: %v", s, got)
		}
	}
	taken := 0
	for range 20000 {
		s := bodied(x.body())
		got := decoded(t, s)
		if got.why != api.OK {
			continue
		}
		taken++
		if again, why := text.Encode(got.kind, got.l); string(again) != s[:got.at] || why != api.OK {
			t.Fatalf("%q was taken, and %q %v is made of it", s, again, why)
		}
	}
	if taken < 100 {
		t.Error("taken:", taken)
	}
}
