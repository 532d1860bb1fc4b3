package console_test

import (
	"math"
	"strings"
	"testing"

	"bourse/api"
	"bourse/console"
	. "bourse/sample"
)

func TestP27_1Examples(t *testing.T) {
	Same(t, "resume", parse("resume ABC 105"), parsed{o: api.Operation{Word: "resume", Name: "ABC", Price: 105}})
	for _, x := range []struct {
		line string
		at   int
	}{
		{"resume ABC", 10}, {"halt  ABC", 5}, {"halt abc", 5}, {"", 0}, {"members x", 8}, {"members ", 8}, {"halt ", 5}, {"kill 0", 5},
	} {
		Same(t, x.line, parse(x.line), parsed{at: x.at, why: api.ErrWord})
	}
}

func TestP27_1Lines(t *testing.T) {
	for _, x := range []struct {
		line string
		o    api.Operation
	}{
		{"halt A", api.Operation{Word: "halt", Name: "A"}},
		{"halt ABCDEFGH", api.Operation{Word: "halt", Name: "ABCDEFGH"}},
		{"resume Z 0", api.Operation{Word: "resume", Name: "Z"}},
		{"resume ABC 262143", api.Operation{Word: "resume", Name: "ABC", Price: 262143}},
		{"auction AZ", api.Operation{Word: "auction", Name: "AZ"}},
		{"open ABC", api.Operation{Word: "open", Name: "ABC"}},
		{"close ABC", api.Operation{Word: "close", Name: "ABC"}},
		{"kill 1", api.Operation{Word: "kill", Member: 1}},
		{"revive 4294967295", api.Operation{Word: "revive", Member: math.MaxUint32}},
		{"limits 7 1 2 3 4 5", api.Operation{Word: "limits", Member: 7, Limits: api.Limits{Order: 1, Open: 2, Count: 3, Position: 4, Worth: 5}, HasLimits: true}},
		{"limits 7 0 0 0 0 0", api.Operation{Word: "limits", Member: 7, HasLimits: true}},
		{"limits 7 18446744073709551615 18446744073709551615 999999999 18446744073709551615 18446744073709551615", api.Operation{Word: "limits", Member: 7, Limits: api.Limits{Order: math.MaxUint64, Open: math.MaxUint64, Count: 999999999, Position: math.MaxUint64, Worth: math.MaxUint64}, HasLimits: true}},
		{"depth ABC 0", api.Operation{Word: "depth", Name: "ABC"}},
		{"depth ABC 999999999", api.Operation{Word: "depth", Name: "ABC", Count: 999999999}},
		{"report ABC", api.Operation{Word: "report", Name: "ABC"}},
		{"members", api.Operation{Word: "members"}},
		{"settle", api.Operation{Word: "settle"}},
	} {
		Same(t, x.line, parse(x.line), parsed{o: x.o})
		reads(t, x.line)
	}
}

func TestP27_1Wrong(t *testing.T) {
	for _, x := range []struct {
		line string
		at   int
	}{
		{" ", 0}, {" halt ABC", 0}, {"hal ABC", 0}, {"Halt ABC", 0}, {"halt\tABC", 0}, {"haltABC", 0}, {"limit 7 1 2 3 4 5", 0},
		{"halt", 4}, {"halt ABC ", 9}, {"halt ABC  ", 9}, {"halt ABC x", 9}, {"halt ABC  x", 9}, {"halt ABCDEFGHI", 5}, {"halt ABc", 5}, {"halt A1", 5}, {"halt A\n", 5}, {"halt Ä", 5},
		{"resume ABC 262144", 11}, {"resume ABC -1", 11}, {"resume ABC 01", 11}, {"resume ABC 00", 11}, {"resume ABC +1", 11}, {"resume ABC 1 ", 13}, {"resume ABC  1", 11}, {"resume  1", 7}, {"resume abc", 7}, {"resume abc 1", 7}, {"resume ABC x y", 11}, {"resume ABC 1_0", 11}, {"resume ABC 0x1", 11},
		{"resume ABC 18446744073709551616", 11}, {"resume ABC 18446744073709813761", 11},
		{"kill", 4}, {"kill 01", 5}, {"kill 4294967296", 5}, {"kill 18446744073709551617", 5}, {"kill 1 2", 7}, {"revive 0", 7}, {"revive A", 7},
		{"limits 7 1 2 3 4", 16}, {"limits 0 1 2 3 4 5", 7}, {"limits 7 1 2 1000000000 4 5", 13}, {"limits 7 18446744073709551616 2 3 4 5", 9}, {"limits 7 1 18446744073709551616 3 4 5", 11}, {"limits 7 1 2 3 18446744073709551616 5", 15}, {"limits 7 1 2 3 4 18446744073709551616", 17}, {"limits 7 1 2 3 4 5 6", 19}, {"limits 7 1 2 3 4 5 ", 19},
		{"depth ABC", 9}, {"depth ABC 1000000000", 10}, {"depth ABC 007", 10},
		{"settle ", 7}, {"settle settle", 7}, {"members  ", 8},
	} {
		Same(t, x.line, parse(x.line), parsed{at: x.at, why: api.ErrWord})
		reads(t, x.line)
	}
}

func TestP27_1Long(t *testing.T) {
	for _, x := range []struct {
		line string
		want parsed
	}{
		{strings.Repeat("x", 2048), parsed{why: api.ErrWord}},
		{strings.Repeat("x", 2049), parsed{at: 2048, why: api.ErrLong}},
		{"halt ABC " + strings.Repeat(" ", 2039), parsed{at: 9, why: api.ErrWord}},
		{"halt ABC " + strings.Repeat(" ", 2040), parsed{at: 2048, why: api.ErrLong}},
		{"settle" + strings.Repeat(" ", 1<<20), parsed{at: 2048, why: api.ErrLong}},
	} {
		Same(t, "Parse", parse(x.line), x.want)
		reads(t, x.line)
	}
}

// Whatever is done to a line, its first fault is found.
func TestP27_1Spoilt(t *testing.T) {
	var mix Mixer = 271
	for range 30000 {
		line := []byte(likelyLine(&mix))
		for range mix.Below(3) {
			at := mix.Below(len(line) + 1)
			switch mix.Below(4) {
			case 0:
				line = append(line[:at], append([]byte(Pick(&mix, " ", "  ", " 0", " A", "9", "0", "Z", "a", "-", "\x00")), line[at:]...)...)
			case 1:
				line = line[:at]
			case 2:
				line = append(line[:at], line[min(at+1, len(line)):]...)
			case 3:
				if at < len(line) {
					line[at] = byte(mix.Below(256))
				}
			}
		}
		reads(t, string(line))
	}
}

// likelyLine is a line that is right, or nearly so.
func likelyLine(mix *Mixer) string {
	word := Pick(mix, "halt", "auction", "open", "close", "report", "resume", "depth", "kill", "revive", "limits", "limits", "members", "settle")
	for _, form := range forms()[word] {
		switch form {
		case "MEMBER", "PRICE", "COUNT", "NUMBER":
			word += " " + Pick(mix, "0", "1", "7", "10", "262143", "262144", "999999999", "1000000000", "4294967295", "4294967296", "18446744073709551615", "18446744073709551616")
		default:
			word += " " + Pick(mix, "A", "ABC", "ZZZZZZZZ", "ABCDEFGHI")
		}
	}
	return word
}

func TestP27_2Print(t *testing.T) {
	for _, o := range []api.Operation{
		{}, {Word: "x"}, {Word: "halt"}, {Word: "halt", Name: "abc"}, {Word: "halt", Name: "ABCDEFGHI"}, {Word: "halt", Name: "A B"}, {Word: "halt", Name: " "}, {Word: "halt ABC"}, {Word: "halt ", Name: "A"}, {Word: "halt", Name: strings.Repeat("A", 4000)},
		{Word: "halt", Name: "ABC", Price: 1}, {Word: "halt", Name: "ABC", Member: 1}, {Word: "halt", Name: "ABC", Count: 1}, {Word: "halt", Name: "ABC", HasLimits: true}, {Word: "halt", Name: "ABC", Limits: api.Limits{Worth: 1}},
		{Word: "resume", Name: "ABC", Price: -1}, {Word: "resume", Name: "ABC", Price: 262144}, {Word: "resume", Name: "ABC", Price: math.MinInt}, {Word: "resume", Price: 1}, {Word: "resume", Name: "ABC", Price: 1, Count: 1},
		{Word: "kill"}, {Word: "kill", Member: 1, Name: "ABC"}, {Word: "revive"},
		{Word: "limits", Member: 7}, {Word: "limits", HasLimits: true}, {Word: "limits", Member: 7, HasLimits: true, Limits: api.Limits{Count: -1}}, {Word: "limits", Member: 7, HasLimits: true, Limits: api.Limits{Count: 1000000000}}, {Word: "limits", Member: 7, HasLimits: true, Name: "ABC"},
		{Word: "depth", Name: "ABC", Count: -1}, {Word: "depth", Name: "ABC", Count: 1000000000}, {Word: "depth", Name: "ABC", Count: math.MaxInt}, {Word: "depth", Name: "ABC", Price: 5},
		{Word: "members", Name: "ABC"}, {Word: "members", Member: 1}, {Word: "settle", HasLimits: true}, {Word: "settle "},
	} {
		line, why := console.Print(o)
		Same(t, "Print", line, "")
		Same(t, "Print", why, api.ErrWord)
	}
	line, why := console.Print(api.Operation{Word: "limits", Member: 7, Limits: api.Limits{Order: 1, Open: 2, Count: 3, Position: 4, Worth: 5}, HasLimits: true})
	Same(t, "Print", line, "limits 7 1 2 3 4 5")
	Same(t, "Print", why, api.OK)
}

// What is read is written as it was, and what is written is read as it was.
func TestP27_6OneForm(t *testing.T) {
	var mix Mixer = 276
	right := 0
	for range 20000 {
		line := likelyLine(&mix)
		p := reads(t, line)
		o := p.o
		if p.why == api.OK {
			again, why := console.Print(o)
			Same(t, "Print", again, line)
			Same(t, "Print", why, api.OK)
			right++
		}
		switch mix.Below(8) {
		case 0:
			o.Word = Pick(&mix, "halt", "kill", "members", "")
		case 1:
			o.Name = Pick(&mix, "", "ABC", "a", "A ")
		case 2:
			o.Member = Pick[uint32](&mix, 0, 1, math.MaxUint32)
		case 3:
			o.Price = Pick(&mix, -1, 0, 1, api.Ticks)
		case 4:
			o.Count = Pick(&mix, -1, 0, 1, 1000000000)
		case 5:
			o.Limits.Count = Pick(&mix, -1, 0, 1, 1000000000)
		case 6:
			o.HasLimits = !o.HasLimits
		case 7:
			o.Limits.Open = mix.Next()
		}
		line, why := console.Print(o)
		if why == api.OK {
			Same(t, line, parse(line), parsed{o: o})
			continue
		}
		Same(t, "Print", line, "")
		Same(t, "Print", why, api.ErrWord)
		// No line says it: not the one of the same words, either.
		for _, n := range []string{"halt ABC", "members", "kill 1", "resume ABC 1", "depth ABC 1", "limits 1 0 0 0 0 0"} {
			Same(t, "whether a line says it", parse(n).o == o, false)
		}
	}
	Same(t, "whether many lines are right", right > 4000, true)
}
