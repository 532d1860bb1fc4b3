package market_test

import (
	"fmt"
	"strings"
	"testing"

	"bourse/api"
	"bourse/market"
	. "bourse/sample"
)

const first = "market 0 1 100 5\n"

func TestP28_1Examples(t *testing.T) {
	refusesScript(t, "list ABC", 1, 0, api.ErrScript)
	refusesScript(t, "market 0 1 100", 1, 14, api.ErrScript)
	refusesScript(t, "market 0 01 100 5", 1, 9, api.ErrScript)
}

func TestP28_1Lines(t *testing.T) {
	for _, none := range []string{"", "\n", "\n\n\n", "   ", "#", "# market", "  #list\n#\n", strings.Repeat(" ", 2048), strings.Repeat("\n", 1<<17)} {
		parses(t, none)
		sameText(t, trace(t, none), "")
	}
	parses(t, "market 0 1 100 5", "1 market 0 1 100 5")
	parses(t, "\n# a day\n  market  0 1   100 5  \n\n tick\n#\n \nkill 7\n", "3 market 0 1 100 5", "5 tick", "8 kill 7")
	parses(t, first+"tick\n\n", "1 market 0 1 100 5", "2 tick")
	parses(t, "#"+strings.Repeat("x", 2047)+"\nmarket"+strings.Repeat(" ", 2035)+"0 1 1 0", "2 market 0 1 1 0")
	// Blanks are blanks alone, and # begins a remark only where it begins a line's first word.
	refusesScript(t, "\tmarket 0 1 100 5", 1, 0, api.ErrScript)
	refusesScript(t, "market 0 1 100\t5", 1, 11, api.ErrScript)
	refusesScript(t, "market 0 1 100 5\r\ntick", 1, 15, api.ErrScript)
	refusesScript(t, first+"tick #", 2, 5, api.ErrScript)
	refusesScript(t, first+"t#", 2, 0, api.ErrScript)
	refusesScript(t, first+"tick\x00", 2, 0, api.ErrScript)
	refusesScript(t, first+"\xff", 2, 0, api.ErrScript)
	refusesScript(t, first+"\v", 2, 0, api.ErrScript)
}

func TestP28_1TooLong(t *testing.T) {
	most := first + strings.Repeat("\n", api.MaxScript-len(first))
	parses(t, most, "1 market 0 1 100 5")
	refusesScript(t, most+"\n", 0, 0, api.ErrLong)
	refusesScript(t, strings.Repeat("x", api.MaxScript), 1, 2048, api.ErrLong)
	refusesScript(t, strings.Repeat("x", api.MaxScript+1), 0, 0, api.ErrLong)

	for _, long := range []string{strings.Repeat(" ", 2049), "#" + strings.Repeat("x", 2048), "tick" + strings.Repeat(" ", 2045), "what" + strings.Repeat("x", 3000)} {
		refusesScript(t, first+long, 2, 2048, api.ErrLong)
		refusesScript(t, first+"\n\ntick\n"+long+"\nwhat", 5, 2048, api.ErrLong)
		parses(t, first+"#"+long[:2047], "1 market 0 1 100 5")
	}
	parses(t, first+"tick"+strings.Repeat(" ", 2044), "1 market 0 1 100 5", "2 tick")
}

func TestP28_1TooMany(t *testing.T) {
	all := first + strings.Repeat(" tick\n#\n\n", api.MaxSays-1)
	says, _, _, why := market.Parse(all)
	Same(t, "Parse", why, api.OK)
	Same(t, "commands", len(says), api.MaxSays)
	says, _, _, why = market.Parse(all + "\n#tick\n   ")
	Same(t, "Parse", why, api.OK)
	Same(t, "commands", len(says), api.MaxSays)
	for _, more := range []string{"tick", "  tick", "what", "market 0 1 100 5", "  kill x"} {
		refusesScript(t, all+more, 2+3*(api.MaxSays-1), 0, api.ErrLong)
		refusesScript(t, all+"\n#\n"+more+"\nwhat", 4+3*(api.MaxSays-1), 0, api.ErrLong)
	}
	refusesScript(t, all+strings.Repeat("x", 2049), 2+3*(api.MaxSays-1), 2048, api.ErrLong)
}

func TestP28_1FirstWord(t *testing.T) {
	for _, no := range []string{"what", "Market", "MARKET", "markets", "mark", "tick0", "ticks1", "mail", "logOn", "x", "\"tick\"", "0", "dat\u00e9"} {
		refusesScript(t, no, 1, 0, api.ErrScript)
		refusesScript(t, "   "+no+" 0 1 100 5", 1, 3, api.ErrScript)
		refusesScript(t, first+"\n  "+no, 3, 2, api.ErrScript)
	}
	for word := range kindsOf(t) {
		if word != "market" {
			refusesScript(t, word, 1, 0, api.ErrScript)
			refusesScript(t, "\n#\n "+word+" x", 3, 1, api.ErrScript)
			refusesScript(t, word+"\n"+first, 1, 0, api.ErrScript)
		}
	}
	refusesScript(t, first+first, 2, 0, api.ErrScript)
	refusesScript(t, first+"tick\n\n market", 4, 1, api.ErrScript)
}

// table is chapter 28's, as it stands there.
const table = `
| market MAKER TAKER BY CENTS | i i i n |
| list NAME CAPACITY MEET ENGINE REFERENCE STATIC DYNAMIC STOPS PART BY | N i i i i i i i i i |
| join MEMBER ORDER OPEN COUNT POSITION WORTH FUND CENTS | m n n i n n n n |
| pay MEMBER CENTS | m n |
| new MEMBER NAME REF SIDE TYPE PRICE QTY PEAK DAY | m N n i i i n n i |
| cancel MEMBER NAME TARGET, withdraw MEMBER NAME TARGET | m N n |
| replace MEMBER NAME TARGET REF PRICE QTY PEAK | m N n n i n n |
| stop MEMBER NAME REF SIDE TYPE TRIGGER PRICE QTY PEAK | m N n i i i i n n |
| turn NAME PHASE, engine NAME ENGINE | N i |
| kill MEMBER, revive MEMBER | m |
| settle | |
| cash MEMBER, margin MEMBER | m |
| position MEMBER NAME, risk MEMBER NAME | m N |
| book NAME, bar NAME, picture NAME | N |
| page NAME MOST | N i |
| dial MEMBER CLIENT | m C |
| logon MEMBER, logoff MEMBER, fetch MEMBER, drop MEMBER, ticks MEMBER | m |
| mailnew MEMBER NAME REF SIDE TYPE PRICE QTY PEAK DAY | m N n i i i n n i |
| mailcancel MEMBER NAME TARGET | m N n |
| mailreplace MEMBER NAME TARGET REF PRICE QTY PEAK | m N n n i n n |
| pass MEMBER K, again MEMBER K | m i |
| tick | |
`

// kindsOf is the table: the kinds of each command's further words.
func kindsOf(t *testing.T) map[string][]string {
	t.Helper()
	all := map[string][]string{}
	for _, row := range strings.Split(strings.TrimSpace(table), "\n") {
		cells := strings.Split(row, "|")
		kinds := strings.Fields(cells[2])
		for _, shown := range strings.Split(cells[1], ",") {
			words := strings.Fields(shown)
			Same(t, "words of "+words[0], len(words)-1, len(kinds))
			all[words[0]] = kinds
		}
	}
	Same(t, "commands", len(all), 34)
	return all
}

// can and cannot are words of each kind, and words that are not.
func can(kind string) []string {
	return map[string][]string{
		"m": {"1", "7", "64", "4294967295"},
		"i": {"0", "1", "10", "99", "999999999"},
		"n": {"0", "1", "10", "1000000000", "4294967296", "9223372036854775808", "18446744073709551615"},
		"N": {"A", "Z", "ABC", "ABCDEFGH", "ZZZZZZZZ"},
		"C": {"A", "Z", "ANN", "ABCDEFGHIJKLMNOP"},
	}[kind]
}

func cannot(kind string) []string {
	never := []string{"-1", "+1", "01", "00", "1.0", "1e3", "0x1", "1_0", "abc", "A1", "1A", "_", "-", "\"\"", "#", "A-B", "\u00c4", "A\t", "\u0661", "18446744073709551616", "99999999999999999999999999999999"}
	more := map[string][]string{
		"m": {"0", "4294967296", "4294967297", "18446744073709551615", "A"},
		"i": {"1000000000", "4294967296", "18446744073709551615", "A"},
		"n": {"A"},
		"N": {"ABCDEFGHI", "1", "a", "Abc", "AB@", "AB["},
		"C": {"ABCDEFGHIJKLMNOPQ", "1", "ann", "ANn", "AB@", "AB["},
	}[kind]
	return append(never, more...)
}

// Each word of each command may be what its kind has, and nothing else, and is found where it stands.
func TestP28_1Kinds(t *testing.T) {
	for word, kinds := range kindsOf(t) {
		lead, number := first, 2
		if word == "market" {
			lead, number = "#\n", 2
		}
		words := []string{word}
		for _, k := range kinds {
			words = append(words, can(k)[1])
		}
		says := func() string { return "  " + strings.Join(words, "  ") }
		want := []string{fmt.Sprint(number, " ", strings.Join(words, " "))}
		if lead == first {
			want = append([]string{"1 market 0 1 100 5"}, want...)
		}
		parses(t, lead+says(), want...)
		refusesScript(t, lead+says()+"   x", number, len(says())+3, api.ErrScript)
		refusesScript(t, lead+says()+" 1 1", number, len(says())+1, api.ErrScript)
		for i, k := range kinds {
			good := words[i+1]
			at := 2 + len(strings.Join(words[:i+1], "  ")) + 2
			for _, w := range can(k) {
				words[i+1] = w
				_, _, _, why := market.Parse(lead + says())
				Same(t, "Parse of "+says(), why, api.OK)
			}
			for _, w := range cannot(k) {
				words[i+1] = w
				refusesScript(t, lead+says(), number, at, api.ErrScript)
				refusesScript(t, lead+says()+" 1", number, at, api.ErrScript)
				refusesScript(t, lead+"  "+strings.Join(words[:i+2], "  "), number, at, api.ErrScript)
			}
			words[i+1] = good
			short := "  " + strings.Join(words[:i+1], "  ")
			refusesScript(t, lead+short, number, len(short), api.ErrScript)
			refusesScript(t, lead+short+"   \nwhat", number, len(short)+3, api.ErrScript)
		}
	}
}

// Of what is wrong that is told which stands first: by lines, then by the word.
func TestP28_1First(t *testing.T) {
	refusesScript(t, "market 0 x 1\nwhat", 1, 9, api.ErrScript)
	refusesScript(t, first+"kill 0 0\n"+strings.Repeat("x", 3000), 2, 5, api.ErrScript)
	refusesScript(t, first+"new 7 abc 01\nkill 0", 2, 6, api.ErrScript)
	refusesScript(t, first+"market x", 2, 0, api.ErrScript)
	refusesScript(t, "tick x", 1, 0, api.ErrScript)
}

func TestP28_2Wrong(t *testing.T) {
	told, line, at, why := market.Run(first + "tick\nkill 0\n")
	Same(t, "trace", told, "")
	Same(t, "line", line, 3)
	Same(t, "place", at, 5)
	Same(t, "Run", why, api.ErrScript)
}

func TestP28_3Many(t *testing.T) {
	day := "\n" + first + "list ABC 9 0 1 100 50 50 4 1 10\nturn ABC 1\n"
	want := trace(t, day)
	none, why := market.Many(nil)
	Same(t, "Many", why, api.OK)
	SameList(t, "traces", none, nil)
	for n := range 9 {
		var texts, traces []string
		for i := range n {
			switch i % 4 {
			case 0:
				texts, traces = append(texts, day), append(traces, want)
			case 1:
				texts, traces = append(texts, "what"), append(traces, "")
			case 2:
				texts, traces = append(texts, first+"tick"), append(traces, "1 ok\n2 ok\n")
			case 3:
				texts, traces = append(texts, ""), append(traces, "")
			}
		}
		asked := append([]string(nil), texts...)
		got, why := market.Many(texts)
		Same(t, "Many", why, api.OK)
		SameList(t, "traces", got, traces)
		SameList(t, "what was handed in", texts, asked)
	}
	for _, n := range []int{9, 10, 100} {
		got, why := market.Many(make([]string, n))
		Same(t, "Many", why, api.ErrLong)
		SameList(t, "traces", got, nil)
	}
}
