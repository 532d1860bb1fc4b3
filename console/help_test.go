package console_test

import (
	"fmt"
	"math/big"
	"regexp"
	"strconv"
	"strings"
	"testing"

	"bourse/api"
	"bourse/console"
	. "bourse/sample"
)

// The tests hold lines against patterns of the library, and reports against what its fmt writes.

// forms is the patterns of the words behind a line's first one.
func forms() map[string][]string {
	const name, member, price, count, number = `[A-Z]{1,8}`, `MEMBER`, `PRICE`, `COUNT`, `NUMBER`
	return map[string][]string{
		"halt": {name}, "auction": {name}, "open": {name}, "close": {name}, "report": {name},
		"resume": {name, price}, "depth": {name, count},
		"kill": {member}, "revive": {member},
		"limits":  {member, number, number, count, number, number},
		"members": nil, "settle": nil,
	}
}

// fits tells whether a word is one of a form.
func fits(form, word string) bool {
	bounds := map[string][2]string{"MEMBER": {"1", "4294967295"}, "PRICE": {"0", "262143"}, "COUNT": {"0", "999999999"}, "NUMBER": {"0", "18446744073709551615"}}
	b, numeral := bounds[form]
	if !numeral {
		return regexp.MustCompile(`\A(?:` + form + `)\z`).MatchString(word)
	}
	if !regexp.MustCompile(`\A(?:0|[1-9][0-9]*)\z`).MatchString(word) {
		return false
	}
	n, least, most := new(big.Int), new(big.Int), new(big.Int)
	n.SetString(word, 10)
	least.SetString(b[0], 10)
	most.SetString(b[1], 10)
	return n.Cmp(least) >= 0 && n.Cmp(most) <= 0
}

// parsed is what Parse answers.
type parsed struct {
	o   api.Operation
	at  int
	why api.Errno
}

func parse(line string) parsed {
	o, at, why := console.Parse(line)
	return parsed{o, at, why}
}

// modelParse goes along a line byte by byte.
func modelParse(line string) parsed {
	if len(line) > 2048 {
		return parsed{at: 2048, why: 2}
	}
	// words are pairs of where each begins and what it is.
	starts, words := []int{0}, []string{""}
	for i := range len(line) {
		if line[i] == ' ' {
			starts, words = append(starts, i+1), append(words, "")
			continue
		}
		words[len(words)-1] += line[i : i+1]
	}
	want, ok := forms()[words[0]]
	if !ok {
		return parsed{why: 270}
	}
	for i, form := range want {
		if i+1 == len(words) {
			return parsed{at: len(line), why: 270}
		}
		if !fits(form, words[i+1]) {
			return parsed{at: starts[i+1], why: 270}
		}
	}
	if len(words) > len(want)+1 {
		return parsed{at: starts[len(want)+1], why: 270}
	}
	return parsed{o: modelOperation(words)}
}

func whole(word string) uint64 {
	n, err := strconv.ParseUint(word, 10, 64)
	if err != nil {
		panic(word)
	}
	return n
}

// modelOperation is the operation of a line's words, which are right.
func modelOperation(words []string) api.Operation {
	o := api.Operation{Word: words[0]}
	switch words[0] {
	case "members", "settle":
	case "kill", "revive":
		o.Member = uint32(whole(words[1]))
	case "limits":
		o.Member = uint32(whole(words[1]))
		o.Limits = api.Limits{Order: whole(words[2]), Open: whole(words[3]), Count: int(whole(words[4])), Position: whole(words[5]), Worth: whole(words[6])}
		o.HasLimits = true
	default:
		o.Name = words[1]
	}
	if o.Word == "resume" {
		o.Price = int(whole(words[2]))
	}
	if o.Word == "depth" {
		o.Count = int(whole(words[2]))
	}
	return o
}

// reads holds Parse against the model.
func reads(t *testing.T, line string) parsed {
	t.Helper()
	got := parse(line)
	Same(t, strconv.Quote(line), got, modelParse(line))
	return got
}

// traded is events of trades: of each its price and its quantity.
func traded(l ...[2]int) []api.Event {
	var out []api.Event
	for i, x := range l {
		out = append(out, Traded(uint64(2*i+2), uint64(2*i+1), api.Buy, x[0], uint64(x[1])))
	}
	return out
}

func stats(l ...[]api.Event) *console.Stats {
	s := console.NewStats()
	for _, x := range l {
		s.Add(x)
	}
	return s
}

// trades is the events that are such.
func trades(l []api.Event) []api.Event {
	var out []api.Event
	for _, e := range l {
		if e.Kind == 3 {
			out = append(out, e)
		}
	}
	return out
}

// modelBar is the bar of the trades among events.
func modelBar(l []api.Event) api.Bar {
	var b api.Bar
	for _, e := range trades(l) {
		if b.Trades == 0 {
			b = api.Bar{Open: e.Price, High: e.Price, Low: e.Price}
		}
		b.Close = e.Price
		if e.Price > b.High {
			b.High = e.Price
		}
		if e.Price < b.Low {
			b.Low = e.Price
		}
		b.Volume += e.Qty
		b.Trades++
	}
	return b
}

func counted(price int) *big.Int {
	if price < 0 || price > 262143 {
		return new(big.Int)
	}
	return big.NewInt(int64(price))
}

// sums is the cents that were turned over, and the quantity, as whole numbers.
func sums(l []api.Event) (cents, qty *big.Int) {
	cents, qty = new(big.Int), new(big.Int)
	for _, e := range trades(l) {
		n := new(big.Int).SetUint64(e.Qty)
		qty.Add(qty, n)
		cents.Add(cents, n.Mul(n, counted(e.Price)))
	}
	return cents, qty
}

func modelTurnover(l []api.Event) string {
	cents, _ := sums(l)
	n := cents.String()
	for len(n) < 3 {
		n = "0" + n
	}
	return n[:len(n)-2] + "." + n[len(n)-2:]
}

// mean is what Mean answers.
type mean struct {
	n  uint64
	ok bool
}

func meanOf(s *console.Stats) mean {
	n, ok := s.Mean()
	return mean{n, ok}
}

// modelMean is the whole number to which the hundredths are the nearest, of those beside the quotient.
func modelMean(l []api.Event) mean {
	cents, qty := sums(l)
	if qty.Sign() == 0 {
		return mean{}
	}
	exact := new(big.Rat).SetFrac(new(big.Int).Mul(cents, big.NewInt(100)), qty)
	low := new(big.Int).Quo(exact.Num(), exact.Denom())
	half := new(big.Rat).Sub(exact, new(big.Rat).SetInt(low)).Cmp(big.NewRat(1, 2))
	n := low.Uint64()
	if half > 0 || half == 0 && n%2 == 1 {
		n++
	}
	return mean{n, true}
}

// modelReport writes a report by fmt.
func modelReport(name string, e api.Engine, l []api.Event, most int) string {
	var b strings.Builder
	fmt.Fprintf(&b, "BOOK %s\n", name)
	for i := 0; e != nil; i++ {
		buys, sells := e.Depth(1, most), e.Depth(2, most)
		if i >= len(buys) && i >= len(sells) {
			break
		}
		left, right := strings.Repeat(" ", 26), strings.Repeat(" ", 26)
		if i < len(buys) {
			left = fmt.Sprintf(" %5d %12d %6d", buys[i].Count, buys[i].Qty, buys[i].Price)
		}
		if i < len(sells) {
			right = fmt.Sprintf(" %6d %12d %5d", sells[i].Price, sells[i].Qty, sells[i].Count)
		}
		fmt.Fprintf(&b, "%3d%s |%s\n", i+1, left, right)
	}
	bar := modelBar(l)
	fmt.Fprintf(&b, "TRADES %d VOLUME %d TURNOVER %s\n", bar.Trades, bar.Volume, modelTurnover(l))
	if bar.Trades == 0 {
		return b.String()
	}
	shown := "-"
	if m := modelMean(l); m.ok {
		shown = fmt.Sprintf("%d.%02d", m.n/100, m.n%100)
	}
	fmt.Fprintf(&b, "OPEN %d HIGH %d LOW %d CLOSE %d MEAN %s\n", bar.Open, bar.High, bar.Low, bar.Close, shown)
	return b.String()
}
