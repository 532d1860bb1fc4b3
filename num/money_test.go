package num_test

import (
	"math/big"
	"strings"
	"testing"

	"bourse/api"
	"bourse/num"
)

const (
	topText    = "1701411834604692317316873037158841057.27"
	beyondText = "1701411834604692317316873037158841057.28"
)

// textOf is a whole number of cents in decimal, by the words of P1.5.
func textOf(n *big.Int) string {
	q, r := new(big.Int).QuoRem(new(big.Int).Abs(n), big.NewInt(100), new(big.Int))
	s := q.String() + "." + string('0'+byte(r.Int64()/10)) + string('0'+byte(r.Int64()%10))
	if n.Sign() < 0 {
		return "-" + s
	}
	return s
}

func TestP1_4Made(t *testing.T) {
	for _, n := range []int64{0, 1, -1, 5, -5, 100, 1<<63 - 1, -1<<63 + 1, -1 << 63} {
		held(t, "Cents", num.Cents(n), api.OK, big.NewInt(n))
	}
	for _, price := range []uint32{0, 1, 2, 100, 1<<18 - 1, 1 << 31, 1<<32 - 1} {
		for _, qty := range edges() {
			held(t, "Times", num.Times(price, qty), api.OK, new(big.Int).Mul(whole(uint64(price)), whole(qty)))
		}
	}
	var m num.Money
	if m != num.Cents(0) || m.Sign() != 0 || m.Text() != "0.00" || m.Words() != [2]uint64{} {
		t.Error("a Money that no call has made", m.Text())
	}
}

func TestP1_4Sums(t *testing.T) {
	for _, a := range amounts() {
		m := money(t, a)
		held(t, "Neg", m.Neg(), api.OK, new(big.Int).Neg(a))
		if m.Sign() != a.Sign() {
			t.Fatal("Sign", a, m.Sign())
		}
		for _, b := range amounts() {
			n := money(t, b)
			sum, why := m.Add(n)
			held(t, "Add", sum, why, new(big.Int).Add(a, b))
			rest, why := m.Sub(n)
			held(t, "Sub", rest, why, new(big.Int).Sub(a, b))
			if m.Compare(n) != a.Cmp(b) {
				t.Fatal("Compare", a, b, m.Compare(n))
			}
			if (m == n) != (a.Cmp(b) == 0) {
				t.Fatal("amounts as values", a, b)
			}
		}
	}
}

func TestP1_4Ends(t *testing.T) {
	greatest := money(t, top())
	least := greatest.Neg()
	for _, x := range []struct {
		what string
		do   func() (num.Money, api.Errno)
	}{
		{"greatest + 1", func() (num.Money, api.Errno) { return greatest.Add(num.Cents(1)) }},
		{"least - 1", func() (num.Money, api.Errno) { return least.Sub(num.Cents(1)) }},
		{"least + -1", func() (num.Money, api.Errno) { return least.Add(num.Cents(-1)) }},
		{"greatest - -1", func() (num.Money, api.Errno) { return greatest.Sub(num.Cents(-1)) }},
		{"greatest + greatest", func() (num.Money, api.Errno) { return greatest.Add(greatest) }},
		{"least + least", func() (num.Money, api.Errno) { return least.Add(least) }},
		{"least - greatest", func() (num.Money, api.Errno) { return least.Sub(greatest) }},
	} {
		if m, why := x.do(); m != (num.Money{}) || why != api.ErrOver {
			t.Error(x.what, m.Text(), why)
		}
	}
	if m, why := greatest.Add(least); m.Sign() != 0 || why != api.OK {
		t.Error("greatest + least", m.Text(), why)
	}
}

func TestP1_5Text(t *testing.T) {
	for _, x := range []struct {
		n    int64
		want string
	}{
		{0, "0.00"}, {1, "0.01"}, {-1, "-0.01"}, {-5, "-0.05"}, {10, "0.10"}, {99, "0.99"}, {100, "1.00"}, {-100, "-1.00"}, {1230, "12.30"}, {100000, "1000.00"},
		{1<<63 - 1, "92233720368547758.07"}, {-1 << 63, "-92233720368547758.08"},
	} {
		if s := num.Cents(x.n).Text(); s != x.want {
			t.Error(x, s)
		}
	}
	for _, n := range amounts() {
		if s := money(t, n).Text(); s != textOf(n) {
			t.Error(n, s)
		}
	}
	if s := money(t, top()).Text(); s != topText {
		t.Error(s)
	}
	if s := num.Times(1<<32-1, most).Text(); s != "792281624958175935155394314.25" {
		t.Error(s)
	}
}

func TestP1_5Parse(t *testing.T) {
	for _, n := range amounts() {
		m, why := num.ParseMoney(textOf(n))
		held(t, "ParseMoney", m, why, n)
	}
	for _, s := range []string{
		"", "-", ".", "-.", "0", "00", "000", "-0", "0.", ".0", ".00", "-.05", "0.0", "0.000", "1.2", "12.3", "1.234", "123", "1230", "12.30.", ".12.30", "1.2.30", "1..30", "12.3.0",
		"-0.00", "00.00", "012.30", "-012.30", "00.05", "+1.00", "+0.00", "--1.00", "-+1.00", "1-.00", "1.0-", "1.00-", " 1.00", "1.00 ", "1.00\n", "\x001.00", "1.00\x00", "1 .00", "1,00", "1:00",
		"a.00", "1.a0", "1.0a", "/.00", ":.00", "0x1.00", "1e2.00", "1_000.00", "1,000.00", "१.००", "１.００", "\xff.00", "NaN", "Inf",
		beyondText, "-" + beyondText, "1701411834604692317316873037158841058.00", "3402823669209384634633746074317682114.55", "3402823669209384634633746074317682114.56", "3402823669209384634633746074317682114.57",
		"9999999999999999999999999999999999999.99", "17014118346046923173168730371588410572.70", "0" + topText, "-0" + topText, "00000000000000000000000000000000000001.00",
		strings.Repeat("9", 100) + ".00", strings.Repeat("0", 100) + ".00", strings.Repeat("-", 100), strings.Repeat(".", 100), strings.Repeat("1", 1<<16),
	} {
		if m, why := num.ParseMoney(s); m != (num.Money{}) || why != api.ErrForm {
			t.Errorf("%.60q %s %d", s, m.Text(), why)
		}
	}
	for _, s := range []string{topText, "-" + topText} {
		if m, why := num.ParseMoney(s); m.Text() != s || why != api.OK {
			t.Error(s, m.Text(), why)
		}
	}
}

// TestP1_5OneForm: of all texts of few bytes those alone are taken that are an amount's.
func TestP1_5OneForm(t *testing.T) {
	const letters = "-.0159+ "
	var try func(s string, more int)
	taken := 0
	try = func(s string, more int) {
		m, why := num.ParseMoney(s)
		if why == api.OK && m.Text() != s || why != api.OK && (why != api.ErrForm || m != num.Money{}) {
			t.Fatalf("%q %s %d", s, m.Text(), why)
		}
		if why == api.OK {
			taken++
		}
		for i := 0; more > 0 && i < len(letters); i++ {
			try(s+letters[i:i+1], more-1)
		}
	}
	try("", 6)
	// "d.dd" with 4 digits, ahead of that 0 to 2 further digits, the first not 0; a minus in the place of one; no "-0.00".
	if want := 64 + 63 + 3*64 + 3*64 + 3*4*64; taken != want {
		t.Error(taken, want)
	}
}

func TestP1_6(t *testing.T) {
	for _, x := range []struct {
		n int64
		w [2]uint64
	}{{0, [2]uint64{0, 0}}, {1, [2]uint64{0, 1}}, {-1, [2]uint64{most, most}}, {-256, [2]uint64{most, most - 255}}, {1<<63 - 1, [2]uint64{0, 1<<63 - 1}}, {-1 << 63, [2]uint64{most, 1 << 63}}} {
		if w := num.Cents(x.n).Words(); w != x.w {
			t.Error("Words", x, w)
		}
		if m, why := num.FromWords(x.w); m != num.Cents(x.n) || why != api.OK {
			t.Error("FromWords", x, m.Text(), why)
		}
	}
	for _, x := range []struct {
		w    [2]uint64
		text string
	}{{[2]uint64{1<<63 - 1, most}, topText}, {[2]uint64{1 << 63, 1}, "-" + topText}, {[2]uint64{1, 0}, "184467440737095516.16"}} {
		if m, why := num.FromWords(x.w); m.Text() != x.text || why != api.OK || m.Words() != x.w {
			t.Error(x, m.Text(), why)
		}
		if m, _ := num.ParseMoney(x.text); m.Words() != x.w {
			t.Error(x, m.Words())
		}
	}
	if m, why := num.FromWords([2]uint64{1 << 63, 0}); m != (num.Money{}) || why != api.ErrForm {
		t.Error("no amount's words", m.Text(), why)
	}
	for _, high := range edges() { // all others are some amount's
		for _, low := range edges() {
			w := [2]uint64{high, low}
			if m, why := num.FromWords(w); w != [2]uint64{1 << 63, 0} && (m.Words() != w || why != api.OK) {
				t.Error(w, m.Text(), why)
			}
		}
	}
}

func heldPortions(t *testing.T, n *big.Int, a, b uint32) {
	t.Helper()
	product := new(big.Int).Mul(new(big.Int).Abs(n), whole(uint64(a)))
	for _, round := range rounds {
		want := rounded(product, whole(uint64(b)), round)
		if n.Sign() < 0 {
			want.Neg(want)
		}
		m, why := money(t, n).Portion(a, b, round)
		held(t, "Portion", m, why, want)
	}
}

func TestP1_7(t *testing.T) {
	l := []uint32{0, 1, 2, 3, 4, 7, 10, 10000, 1<<31 - 1, 1 << 31, 1<<31 + 1, 1<<32 - 2, 1<<32 - 1}
	for _, n := range amounts() {
		for _, a := range l {
			for _, b := range l[1:] {
				heldPortions(t, n, a, b)
			}
		}
	}
	x := mixer(7)
	for range 100 {
		for _, n := range amounts() {
			heldPortions(t, n, uint32(x.count()), uint32(x.count())|1)
		}
	}
}

func TestP1_7Halves(t *testing.T) {
	for _, x := range []struct {
		n    int64
		want [3]int64
	}{{-7, [3]int64{-3, -4, -4}}, {7, [3]int64{3, 4, 4}}, {-5, [3]int64{-2, -3, -2}}, {5, [3]int64{2, 3, 2}}, {-1, [3]int64{0, -1, 0}}, {1, [3]int64{0, 1, 0}}, {0, [3]int64{0, 0, 0}}, {-6, [3]int64{-3, -3, -3}}} {
		for round, want := range x.want {
			if m, why := num.Cents(x.n).Portion(1, 2, round); m != num.Cents(want) || why != api.OK {
				t.Error(x, round, m.Text(), why)
			}
		}
	}
}

// TestP1_7Top: sizes times a divided by b about 2^127 - 1, which rounding alone puts beyond the amounts.
func TestP1_7Top(t *testing.T) {
	overs := [3]int{}
	for b := uint32(2); b < 60; b++ {
		for a := b + 1; a < 2*b; a++ {
			n := rounded(new(big.Int).Mul(top(), whole(uint64(b))), whole(uint64(a)), num.Up)
			heldPortions(t, n, a, b)
			heldPortions(t, n.Neg(n), a, b)
			for round := range overs {
				if _, why := money(t, n).Portion(a, b, round); why == api.ErrOver {
					overs[round]++
				}
			}
		}
	}
	if overs[num.Up] <= overs[num.Nearest] || overs[num.Nearest] <= overs[num.Down] {
		t.Error("no size that rounding puts beyond the amounts was tried", overs)
	}
	for _, n := range []*big.Int{top(), new(big.Int).Neg(top())} {
		if m, why := money(t, n).Portion(1<<32-1, 1, num.Down); m != (num.Money{}) || why != api.ErrOver {
			t.Error(n, m.Text(), why)
		}
	}
}

func TestP1_7Wrong(t *testing.T) {
	for _, n := range []*big.Int{new(big.Int), big.NewInt(-7), top()} {
		for _, round := range wrongRounds {
			for _, b := range []uint32{0, 1} {
				if m, why := money(t, n).Portion(1<<32-1, b, round); m != (num.Money{}) || why != api.ErrArg {
					t.Error(n, b, round, m.Text(), why)
				}
			}
		}
		for _, round := range rounds {
			for _, a := range []uint32{0, 1<<32 - 1} {
				if m, why := money(t, n).Portion(a, 0, round); m != (num.Money{}) || why != api.ErrDivide {
					t.Error(n, a, round, m.Text(), why)
				}
			}
		}
	}
}

// heldLaws holds three amounts against the laws of sums, wherever all the sums are amounts.
func heldLaws(t *testing.T, a, b, c num.Money) {
	t.Helper()
	ab, why := a.Add(b)
	ba, other := b.Add(a)
	if ab != ba || why != other {
		t.Fatal("in any order", a.Text(), b.Text())
	}
	if why != api.OK {
		return
	}
	if back, e := ab.Sub(b); back != a || e != api.OK {
		t.Fatal("Sub undoes Add", a.Text(), b.Text())
	}
	bc, why := b.Add(c)
	if why != api.OK {
		return
	}
	left, why1 := ab.Add(c)
	right, why2 := a.Add(bc)
	if why1 != why2 || left != right {
		t.Fatal("with any brackets", a.Text(), b.Text(), c.Text())
	}
}

func TestP1_9Sums(t *testing.T) {
	l := amounts()
	x := mixer(8)
	pick := func() num.Money { return money(t, l[x.next()%uint64(len(l))]) }
	for range 50000 {
		heldLaws(t, pick(), pick(), pick())
	}
}

func TestP1_9Back(t *testing.T) {
	texts, pairs := map[string]num.Money{}, map[[2]uint64]num.Money{}
	for _, n := range amounts() {
		m := money(t, n)
		if back, why := num.ParseMoney(m.Text()); back != m || why != api.OK {
			t.Fatal(m.Text(), why)
		}
		if back, why := num.FromWords(m.Words()); back != m || why != api.OK {
			t.Fatal(m.Words(), why)
		}
		if one, there := texts[m.Text()]; there && one.Compare(m) != 0 {
			t.Fatal("two amounts of one Text", m.Text())
		}
		if one, there := pairs[m.Words()]; there && one.Compare(m) != 0 {
			t.Fatal("two amounts of one Words", m.Words())
		}
		texts[m.Text()], pairs[m.Words()] = m, m
	}
}
