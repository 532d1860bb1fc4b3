package text_test

import (
	"slices"
	"strconv"
	"strings"
	"testing"

	"bourse/api"
	"bourse/text"
)

func TestP3_1Sum(t *testing.T) {
	x := mixer(1)
	for n := range 400 {
		b := make([]byte, n)
		for i := range b {
			b[i] = byte(x.next())
		}
		room := spare(string(b))
		if got := text.Sum(room); got != sum(string(b)) {
			t.Fatal(b, got)
		}
		if !untouched(room, string(b)) {
			t.Fatal("Sum changed its bytes")
		}
	}
	for _, c := range []struct {
		in   []byte
		want int
	}{{nil, 0}, {[]byte{}, 0}, {[]byte{255}, 255}, {[]byte{255, 1}, 0}, {[]byte{255, 255}, 254}, {make([]byte, 9), 0}, {[]byte{128, 128, 7}, 7}} {
		if got := text.Sum(c.in); got != c.want {
			t.Error(c, got)
		}
	}
}

func TestP3_1Decimal(t *testing.T) {
	for n, want := range map[uint64]string{0: "0", 1: "1", 9: "9", 10: "10", 100: "100", 12345: "12345", 1 << 63: "9223372036854775808", 1<<64 - 1: "18446744073709551615"} {
		if got := text.Decimal(n); got != want {
			t.Error(n, got)
		}
	}
	x := mixer(2)
	for range 300 {
		n := x.next() >> x.below(64)
		if got := text.Decimal(n); got != strconv.FormatUint(n, 10) {
			t.Fatal(n, got)
		}
	}
}

func TestP3_2Example(t *testing.T) {
	s, why := encoded(t, "D", []api.Tag{{Tag: 11, Value: "7"}, {Tag: 55, Value: "A"}})
	if s != example || why != api.OK {
		t.Errorf("%q %v", s, why)
	}
	for _, c := range []struct {
		kind string
		f    api.Tag
		want api.Errno
	}{
		{"D", api.Tag{Tag: 8, Value: "x"}, api.ErrTag},
		{"D", api.Tag{Tag: 11}, api.ErrValue},
		{"", api.Tag{Tag: 11, Value: "x"}, api.ErrForm},
	} {
		if _, why := encoded(t, c.kind, []api.Tag{c.f}); why != c.want {
			t.Error(c, why)
		}
	}
}

func TestP3_2Kinds(t *testing.T) {
	for c := range 256 {
		one := string([]byte{byte(c)})
		encoded(t, one, nil)
		encoded(t, one+"x", nil)
		encoded(t, "x"+one, nil)
	}
	for _, kind := range []string{"", "abc", "AAAA", "é", "世", "00", "zZ", strings.Repeat("A", 5000)} {
		encoded(t, kind, nil)
	}
}

func TestP3_2Tags(t *testing.T) {
	for tag := -3; tag <= 10003; tag++ {
		encoded(t, "D", []api.Tag{{Tag: tag, Value: "v"}})
	}
	for _, tag := range []int{-1 << 63, 1<<63 - 1, -8, 65536 + 11, 1<<32 + 11} {
		if _, why := encoded(t, "D", []api.Tag{{Tag: tag, Value: "v"}}); why != api.ErrTag {
			t.Error(tag, why)
		}
	}
	for _, l := range [][]api.Tag{
		{{Tag: 11, Value: "a"}, {Tag: 11, Value: "a"}},
		{{Tag: 11, Value: "a"}, {Tag: 12, Value: "b"}, {Tag: 11, Value: "c"}},
	} {
		if _, why := encoded(t, "D", l); why != api.ErrTag {
			t.Error(l, why)
		}
	}
}

func TestP3_2Values(t *testing.T) {
	for c := range 256 {
		one := string([]byte{byte(c)})
		for _, v := range []string{one, one + "x", "x" + one, "x" + one + "x"} {
			encoded(t, "D", []api.Tag{{Tag: 11, Value: v}})
		}
	}
}

func TestP3_2FirstError(t *testing.T) {
	good := api.Tag{Tag: 11, Value: "x"}
	badTag := api.Tag{Tag: 35, Value: "x"}
	badValue := api.Tag{Tag: 12, Value: "\x01"}
	worst := api.Tag{Tag: 0, Value: ""}
	again := api.Tag{Tag: 11, Value: ""}
	great := api.Tag{Tag: 13, Value: strings.Repeat("y", 3000)}
	many := make([]api.Tag, 65)
	for _, c := range []struct {
		kind string
		l    []api.Tag
		want api.Errno
	}{
		{"", many, api.ErrForm},
		{"###", []api.Tag{worst}, api.ErrForm},
		{"D", many, api.ErrLong},
		{"D", many[:64], api.ErrTag},
		{"D", []api.Tag{worst}, api.ErrTag},
		{"D", []api.Tag{good, again}, api.ErrTag},
		{"D", []api.Tag{badTag, badValue}, api.ErrTag},
		{"D", []api.Tag{badValue, badTag}, api.ErrValue},
		{"D", []api.Tag{great, badValue}, api.ErrValue},
		{"D", []api.Tag{great, badTag}, api.ErrTag},
		{"D", []api.Tag{great, good}, api.ErrLong},
	} {
		if _, why := encoded(t, c.kind, c.l); why != c.want {
			t.Error(c.kind, why, c.want)
		}
	}
}

func TestP3_2Full(t *testing.T) {
	var l []api.Tag
	for i := range 66 {
		l = append(l, api.Tag{Tag: 100 + i, Value: "v"})
	}
	for n, want := range map[int]api.Errno{63: api.OK, 64: api.OK, 65: api.ErrLong, 66: api.ErrLong} {
		if _, why := encoded(t, "D", l[:n]); why != want {
			t.Error(n, why)
		}
	}
}

// Lines of all sizes around the digits of their lengths and around the greatest one.
func TestP3_2Sizes(t *testing.T) {
	greatest := 0
	for n := 1; n < 2100; n++ {
		s, why := encoded(t, "D", []api.Tag{{Tag: 11, Value: strings.Repeat("z", n)}})
		if why == api.OK {
			greatest = max(greatest, len(s))
			decoded(t, s)
		}
	}
	if greatest != api.MaxLine {
		t.Error("the greatest line has", greatest)
	}
}

func TestP3_2NewMemory(t *testing.T) {
	l := []api.Tag{{Tag: 11, Value: "7"}}
	a, _ := text.Encode("D", l)
	want := string(a)
	b, _ := text.Encode("D", l)
	for i := range a[:cap(a)] {
		a[:cap(a)][i] = 0
	}
	if string(b) != want {
		t.Error("two answers share memory")
	}
	if c, _ := text.Encode("D", l); string(c) != want {
		t.Error("an answer is shared with the package")
	}
}

func TestP3_4Value(t *testing.T) {
	l := []api.Tag{{Tag: 5, Value: "five"}, {Tag: -1, Value: "less"}, {Tag: 5, Value: "again"}, {Tag: 35, Value: ""}, {Tag: 0, Value: "\x00"}}
	before := slices.Clone(l)
	for _, c := range []struct {
		tag  int
		want string
		ok   bool
	}{{5, "five", true}, {-1, "less", true}, {35, "", true}, {0, "\x00", true}, {6, "", false}, {1 << 62, "", false}} {
		if got, ok := text.Value(l, c.tag); got != c.want || ok != c.ok {
			t.Error(c, got, ok)
		}
	}
	if got, ok := text.Value(nil, 0); got != "" || ok {
		t.Error("of no fields:", got, ok)
	}
	if !slices.Equal(l, before) {
		t.Error("Value changed its fields")
	}
}

func TestP3_4Number(t *testing.T) {
	values := []string{
		"0", "1", "9", "10", "42", "18446744073709551615", "18446744073709551616", "18446744073709551625", "184467440737095516150", "99999999999999999999",
		"", "00", "01", "007", "-0", "-1", "+1", " 1", "1 ", "1_000", "0x10", "1e3", "1.0", "a", "１", "1\x00", "\x01", "0b1", "1\n", strings.Repeat("0", 100), strings.Repeat("9", 3000),
		"4294967295", "4294967296", "9223372036854775807", "9223372036854775808", "10000000000000000000",
	}
	for c := range 256 {
		values = append(values, string([]byte{byte(c)}), string([]byte{'4', byte(c)}), string([]byte{byte(c), '4'}))
	}
	x := mixer(3)
	for range 500 {
		values = append(values, strconv.FormatUint(x.next()>>x.below(64), 10), x.of("0123456789", 1+x.below(22)))
	}
	for _, v := range values {
		n, why := text.Number([]api.Tag{{Tag: 1, Value: "77"}, {Tag: 2, Value: v}, {Tag: 2, Value: "88"}}, 2)
		if want, wantWhy := wantedNumber(v); n != want || why != wantWhy {
			t.Errorf("Number of %q: %d %v, wanted %d %v", v, n, why, want, wantWhy)
		}
	}
	for _, l := range [][]api.Tag{nil, {}, {{Tag: 1, Value: "77"}}} {
		if n, why := text.Number(l, 2); n != 0 || why != api.ErrTag {
			t.Error(l, n, why)
		}
	}
}
