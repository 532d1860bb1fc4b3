package market_test

import (
	"strings"
	"testing"

	"bourse/api"
	"bourse/market"
	. "bourse/sample"
)

func TestP28_2Examples(t *testing.T) {
	tells(t, `
		market 0 1 100 500
		= ok
		list ABC 9 0 1 100 50 50 4 1 10
		= list 1
		join 7 100 100 9 100 1000000 0 1000
		= ok
		join 8 100 100 9 100 1000000 0 0
		= ok
		turn ABC 1
		= ok
		= > 1 0 ABC 0 0 phase 1 100
		turn ABC 2
		= ok
		= > 2 0 ABC 0 0 phase 2 100
		new 7 ABC 1 1 1 100 5 0 0
		= ok
		= > 3 7 ABC 1 0 ack 1 1 100 5 0
		new 8 ABC 1 2 1 100 2 0 0
		= ok
		= > 4 8 ABC 1 0 ack 2 1 100 2 0
		= > 5 8 ABC 1 0 trade 2 100 2
		= > 6 7 ABC 1 0 trade 2 100 2
		cash 7
		= cash 8.00 0.02
		new 9 ABC 1 1 1 100 5 0 0
		= ok
		= > 7 9 ABC 1 0 reject 200
		turn XYZ 1
		= refused 260
	`)
}

// The number of a line stands ahead of what it tells, whatever lies between.
func TestP28_2Numbers(t *testing.T) {
	const script = "\n# a day\n  market 0 1 100 5\n\nlist  ABC  9 0 1 100 50 50 4 1 10\n#\n   turn ABC 1   \n\n\n\nbook ABC"
	sameText(t, trace(t, script), "3 ok\n5 list 1\n7 ok\n7 > 1 0 ABC 0 0 phase 1 100\n11 book 1 0 1 0 0\n")
}

// Where the exchange is refused, nothing is done any more, whatever is asked.
func TestP28_2Nothing(t *testing.T) {
	for _, no := range []string{"0 0 0 500", "2 0 1 500", "0 2 1 500", "0 0 0 0"} {
		script, want := "market "+no+"\n", "1 refused 1\n"
		for word, kinds := range kindsOf(t) {
			if word == "market" {
				continue
			}
			for _, k := range kinds {
				word += " " + can(k)[0]
			}
			script += word + "\n"
		}
		for n := 2; n <= strings.Count(script, "\n"); n++ {
			want += digits(n) + " nothing\n"
		}
		sameText(t, trace(t, script), want)
	}
	for _, yes := range []string{"0 0 1 0", "1 1 1 18446744073709551615", "999999999 999999999 999999999 1"} {
		sameText(t, trace(t, "market "+yes), "1 ok\n")
	}
}

func TestP28_2List(t *testing.T) {
	tells(t, `
		market 1 2 100 500
		= ok
		list ABC 9 0 1 100 50 20 4 1 10
		= list 1
		list ABCDEFGH 4096 3 3 262143 262144 262144 4096 1 1
		= list 2
		list ABC 9 0 1 100 50 20 4 1 10
		= refused 261
		list X 9 0 0 100 50 20 4 1 10
		= refused 1
		list X 9 0 4 100 50 20 4 1 10
		= refused 1
		list X 0 0 1 100 50 20 4 1 10
		= refused 1
		list X 4097 0 1 100 50 20 4 1 10
		= refused 1
		list X 9 4 1 100 50 20 4 1 10
		= refused 1
		list X 9 0 1 262144 50 20 4 1 10
		= refused 1
		list X 9 0 1 100 50 20 4097 1 10
		= refused 1
		list X 9 0 1 100 50 20 4 2 1
		= refused 1
		list X 9 0 1 100 50 20 4 0 0
		= refused 1
		list X 9 0 2 100 50 20 0 0 1
		= list 3
		join 7 100 100 9 100 1000000 1000 100000
		= ok
		risk 7 X
		= risk 0 0 0 0 0 0
		page X 3
		= page
		= | BOOK X
		= | TRADES 0 VOLUME 0 TURNOVER 0.00
	`)
	script, want := "market 0 0 1 0\n", "1 ok\n"
	for n := 1; n <= 18; n++ {
		script += "list " + string(rune('A'+n)) + " 9 0 1 100 50 20 4 1 10\n"
		if n <= api.MaxInstruments {
			want += digits(n+1) + " list " + digits(n) + "\n"
		} else {
			want += digits(n+1) + " refused 2\n"
		}
	}
	sameText(t, trace(t, script), want)
}

func TestP28_2Join(t *testing.T) {
	tells(t, `
		market 0 1 100 500
		= ok
		join 7 100 100 9 100 1000000 1000 100000
		= ok
		join 7 1 1 1 1 1 1 1
		= refused 81
		join 9 18446744073709551615 18446744073709551615 999999999 18446744073709551615 18446744073709551615 0 4611686018427387905
		= refused 201
		join 9 18446744073709551615 18446744073709551615 999999999 18446744073709551615 18446744073709551615 0 4611686018427387904
		= ok
		join 4294967295 0 0 0 0 0 18446744073709551615 0
		= refused 201
		join 4294967295 0 0 0 0 0 20 0
		= ok
		cash 7
		= cash 1000.00 0.00
		cash 9
		= cash 46116860184273879.04 0.00
		cash 4294967295
		= cash 0.00 0.00
		cash 10
		= cash 0.00 0.00
		margin 7
		= margin 1000 0.00 0 0
		margin 9
		= margin 0 0.00 0 0
		margin 4294967295
		= margin 20 0.00 0 0
		margin 10
		= nobody
		pay 7 250
		= ok
		pay 10 250
		= refused 200
		pay 7 0
		= refused 201
		pay 7 18446744073709551615
		= refused 201
		margin 7
		= margin 1000 2.50 0 0
		cash 7
		= cash 1000.00 0.00
	`)
	script, want := "market 0 0 1 0\n", "1 ok\n"
	for n := 1; n <= api.MaxMembers+2; n++ {
		script += "join " + digits(n) + " 1 1 1 1 1 1 1\n"
		if n <= api.MaxMembers {
			want += digits(n+1) + " ok\n"
		} else {
			want += digits(n+1) + " refused 2\n"
		}
	}
	sameText(t, trace(t, script), want)
}

// Each limit is the one that its word says.
func TestP28_2Limits(t *testing.T) {
	for _, l := range []struct{ limits, tells string }{
		{"5 9 9 9 900", "ack 1 1 100 5 0"}, {"4 9 9 9 900", "reject 213"}, {"5 4 9 9 900", "reject 215"}, {"5 9 0 9 900", "reject 214"}, {"5 9 9 4 900", "reject 216"}, {"5 9 9 9 499", "reject 217"}, {"5 5 1 5 500", "ack 1 1 100 5 0"},
	} {
		tells(t, `
			market 0 1 100 500
			= ok
			list ABC 9 0 1 100 50 20 4 1 10
			= list 1
			join 7 `+l.limits+` 0 0
			= ok
			turn ABC 1
			= ok
			= > 1 0 ABC 0 0 phase 1 100
			turn ABC 2
			= ok
			= > 2 0 ABC 0 0 phase 2 100
			new 7 ABC 1 1 1 100 5 0 0
			= ok
			= > 3 7 ABC 1 0 `+l.tells+`
		`)
	}
}

// ready is the beginning of a day: 7 and 8 may do what they want in ABC, which is opened; five lines, six with what is told.
const ready = `
		market 1 2 100 500
		= ok
		list ABC 9 0 1 100 50 20 4 1 10
		= list 1
		join 7 100 100 9 100 1000000 1000 100000
		= ok
		join 8 100 100 9 100 1000000 500 100000
		= ok
		turn ABC 1
		= ok
		= > 1 0 ABC 0 0 phase 1 100
		turn ABC 2
		= ok
		= > 2 0 ABC 0 0 phase 2 100
`

func TestP28_2Orders(t *testing.T) {
	tells(t, ready+`
		new 7 ABC 1 1 1 100 5 0 0
		= ok
		= > 3 7 ABC 1 0 ack 1 1 100 5 0
		new 7 ABC 2 1 1 101 9 2 1
		= ok
		= > 4 7 ABC 2 0 ack 1 1 101 9 2
		new 8 ABC 1 2 3 101 5 0 0
		= ok
		= > 5 8 ABC 1 0 ack 2 3 101 5 0
		= > 6 8 ABC 1 0 trade 2 101 2
		= > 7 7 ABC 2 0 trade 2 101 2
		= > 8 7 ABC 2 0 refresh 101 2
		= > 9 8 ABC 1 0 trade 2 101 2
		= > 10 7 ABC 2 0 trade 2 101 2
		= > 11 7 ABC 2 0 refresh 101 2
		= > 12 8 ABC 1 0 trade 2 101 1
		= > 13 7 ABC 2 0 trade 2 101 1
		new 8 ABC 1 2 1 100 1 0 0
		= ok
		= > 14 8 ABC 1 0 reject 262
		new 8 ABC 0 2 1 100 1 0 0
		= ok
		= > 15 8 ABC 0 0 reject 262
		new 8 XYZ 2 2 1 100 1 0 0
		= ok
		= > 16 8 - 2 0 reject 260
		new 8 ABC 2 2 1 110 4 0 2
		= ok
		= > 17 8 ABC 2 0 ack 2 1 110 4 0
		replace 8 ABC 2 9 111 6 3
		= ok
		= > 18 8 ABC 2 0 cancel 4 2
		= > 19 8 ABC 9 0 ack 2 1 111 6 3
		book ABC
		= book 2 5 13 2 1
		= buy 2 7 1 101 1 3 2
		= buy 1 7 1 100 5 0 0
		= sell 5 8 1 111 3 3 3
		replace 8 XYZ 9 10 111 6 0
		= ok
		= > 20 8 - 10 9 reject 260
		replace 8 ABC 2 10 111 6 0
		= ok
		= > 21 8 ABC 10 2 reject 91
		replace 8 ABC 2 9 111 6 0
		= ok
		= > 22 8 ABC 9 2 reject 262
		cancel 7 ABC 1
		= ok
		= > 23 7 ABC 1 0 cancel 5 1
		cancel 7 ABC 1
		= ok
		= > 24 7 ABC 0 1 reject 91
		cancel 7 XYZ 2
		= ok
		= > 25 7 - 0 2 reject 260
		cancel 8 ABC 4
		= ok
		= > 26 8 ABC 0 4 reject 91
		new 8 ABC 20 1 4 111 90 0 0
		= ok
		= > 27 8 ABC 20 0 ack 1 4 111 90 0
		= > 28 8 ABC 20 0 cancel 90 4
		new 8 ABC 21 1 2 0 90 0 0
		= ok
		= > 29 8 ABC 21 0 ack 1 2 0 90 0
		= > 30 8 ABC 21 0 trade 1 111 3
		= > 31 8 ABC 9 0 trade 1 111 3
		= > 32 8 ABC 9 0 refresh 111 3
		= > 33 8 ABC 21 0 trade 1 111 3
		= > 34 8 ABC 9 0 trade 1 111 3
		= > 35 8 ABC 21 0 cancel 84 3
		new 8 ABC 22 1 1 101 1 1 0
		= ok
		= > 36 8 ABC 22 0 ack 1 1 101 1 1
		new 8 ABC 23 2 5 101 1 0 0
		= ok
		= > 37 8 ABC 23 0 reject 99
		new 7 ABC 24 3 1 101 1 0 0
		= ok
		= > 38 7 ABC 24 0 reject 92
		new 7 ABC 18446744073709551615 2 1 120 18446744073709551615 18446744073709551615 999999999
		= ok
		= > 39 7 ABC 18446744073709551615 0 reject 213
	`)
}

func TestP28_2Stops(t *testing.T) {
	tells(t, ready+`
		stop 7 ABC 1 1 2 110 0 2 0
		= ok
		= > 3 7 ABC 1 0 stop 110 0
		stop 8 ABC 1 2 1 90 85 30 10
		= ok
		= > 4 8 ABC 1 0 stop 90 0
		stop 8 ABC 2 2 1 91 86 30 10
		= ok
		= > 5 8 ABC 2 0 stop 91 0
		stop 8 XYZ 3 2 1 91 86 30 10
		= ok
		= > 6 8 - 3 0 reject 260
		stop 8 ABC 3 2 1 262144 86 30 10
		= ok
		= > 7 8 ABC 3 0 reject 131
		withdraw 8 ABC 2
		= ok
		= > 8 8 ABC 2 0 stop 91 1
		withdraw 8 ABC 2
		= ok
		= > 9 8 ABC 0 2 reject 130
		withdraw 8 XYZ 2
		= ok
		= > 10 8 - 0 2 reject 260
		cancel 8 ABC 1
		= ok
		= > 11 8 ABC 0 1 reject 91
		new 8 ABC 4 2 1 110 1 0 0
		= ok
		= > 12 8 ABC 4 0 ack 2 1 110 1 0
		new 8 ABC 5 2 1 111 5 0 0
		= ok
		= > 13 8 ABC 5 0 ack 2 1 111 5 0
		new 7 ABC 2 1 1 110 1 0 0
		= ok
		= > 14 7 ABC 2 0 ack 1 1 110 1 0
		= > 15 7 ABC 2 0 trade 1 110 1
		= > 16 8 ABC 4 0 trade 1 110 1
		= > 17 7 ABC 1 0 trigger
		= > 18 7 ABC 1 0 ack 1 2 0 2 0
		= > 19 7 ABC 1 0 trade 1 111 2
		= > 20 8 ABC 5 0 trade 1 111 2
		cancel 8 ABC 5
		= ok
		= > 21 8 ABC 5 0 cancel 3 1
		turn ABC 4
		= ok
		= > 22 8 ABC 1 0 stop 90 6
		= > 23 0 ABC 0 0 phase 4 100
	`)
}

func TestP28_2Turns(t *testing.T) {
	tells(t, `
		market 0 0 1 0
		= ok
		list ABC 9 0 1 100 50 3 4 1 10
		= list 1
		list XYZ 9 0 2 200 50 3 4 1 10
		= list 2
		join 7 100 100 9 100 1000000 0 1000
		= ok
		join 8 100 100 9 100 1000000 0 1000
		= ok
		book ABC
		= book 0 0 0 0 0
		turn ABC 2
		= refused 160
		turn NONE 1
		= refused 260
		turn ABC 1
		= ok
		= > 1 0 ABC 0 0 phase 1 100
		turn XYZ 999999999
		= refused 160
		turn XYZ 1
		= ok
		= > 2 0 XYZ 0 0 phase 1 200
		new 7 ABC 1 1 1 102 5 0 0
		= ok
		= > 3 7 ABC 1 0 ack 1 1 102 5 0
		new 8 ABC 1 2 1 99 3 0 1
		= ok
		= > 4 8 ABC 1 0 ack 2 1 99 3 0
		turn ABC 2
		= ok
		= > 5 0 ABC 0 0 price 102 3 3
		= > 6 7 ABC 1 0 trade 1 102 3
		= > 7 8 ABC 1 0 trade 1 102 3
		= > 8 0 ABC 0 0 phase 2 102
		new 8 ABC 2 2 1 110 9 0 1
		= ok
		= > 9 8 ABC 2 0 ack 2 1 110 9 0
		new 8 ABC 3 2 1 111 8 0 2
		= ok
		= > 10 8 ABC 3 0 ack 2 1 111 8 0
		new 7 ABC 2 1 1 110 9 0 0
		= ok
		= > 11 7 ABC 2 0 reject 152
		= > 12 0 ABC 0 0 halt 110
		= > 13 0 ABC 0 0 phase 3 102
		turn ABC 4
		= ok
		= > 14 0 ABC 0 0 phase 4 102
		turn ABC 0
		= ok
		= > 15 8 ABC 2 0 cancel 9 6
		= > 16 0 ABC 0 0 phase 0 102
		book ABC
		= book 0 4 14 1 1
		= buy 1 7 1 102 2 0 0
		= sell 4 8 1 111 8 0 0
	`)
}

func TestP28_2Engine(t *testing.T) {
	tells(t, ready+`
		engine ABC 2
		= ok
		engine ABC 3
		= ok
		new 7 ABC 1 1 1 100 5 0 0
		= ok
		= > 3 7 ABC 1 0 ack 1 1 100 5 0
		engine ABC 1
		= ok
		engine ABC 0
		= refused 121
		engine ABC 4
		= refused 121
		engine NONE 1
		= refused 260
		engine NONE 9
		= refused 260
		book ABC
		= book 2 1 3 1 0
		= buy 1 7 1 100 5 0 0
	`)
}

func TestP28_2Kill(t *testing.T) {
	tells(t, ready+`
		new 7 ABC 1 1 1 100 5 0 0
		= ok
		= > 3 7 ABC 1 0 ack 1 1 100 5 0
		new 7 ABC 2 2 1 101 6 0 0
		= ok
		= > 4 7 ABC 2 0 ack 2 1 101 6 0
		stop 7 ABC 3 1 2 110 0 2 0
		= ok
		= > 5 7 ABC 3 0 stop 110 0
		risk 7 ABC
		= risk 0 5 6 2 0 0
		kill 9
		= refused 200
		kill 7
		= ok
		= > 6 7 ABC 1 0 cancel 5 1
		= > 7 7 ABC 2 0 cancel 6 1
		= > 8 7 ABC 3 0 stop 110 1
		risk 7 ABC
		= risk 1 0 0 0 0 0
		new 7 ABC 20 1 1 100 1 0 0
		= ok
		= > 9 7 ABC 20 0 reject 211
		revive 9
		= refused 200
		revive 7
		= ok
		risk 7 ABC
		= risk 0 0 0 0 0 0
		new 7 ABC 20 1 1 100 1 0 0
		= ok
		= > 10 7 ABC 20 0 ack 1 1 100 1 0
		kill 8
		= ok
	`)
}

// 8 sold 10 at 120, and 7 bought them: at 100, 7 has too little, and 8 too little margin.
func TestP28_2Settle(t *testing.T) {
	tells(t, ready+`
		new 7 ABC 1 1 1 120 10 0 0
		= ok
		= > 3 7 ABC 1 0 ack 1 1 120 10 0
		new 8 ABC 1 2 1 120 10 0 0
		= ok
		= > 4 8 ABC 1 0 ack 2 1 120 10 0
		= > 5 8 ABC 1 0 trade 2 120 10
		= > 6 7 ABC 1 0 trade 2 120 10
		new 7 ABC 2 1 1 90 3 0 0
		= ok
		= > 7 7 ABC 2 0 ack 1 1 90 3 0
		settle
		= refused 160
		turn ABC 4
		= ok
		= > 8 0 ABC 0 0 phase 4 100
		turn ABC 0
		= ok
		= > 9 0 ABC 0 0 phase 0 100
		settle
		= settle 1 0
		= call 7 1.00 -2.00
		margin 7
		= margin 1000 -2.00 1 0
		margin 8
		= margin 500 2.00 0 0
		settle
		= settle 0 1
		= fall 7 200 0 0
		= > 10 7 ABC 2 0 cancel 3 1
		margin 7
		= margin 800 0.00 0 1
		new 7 ABC 3 1 1 90 3 0 0
		= ok
		= > 11 7 ABC 3 0 reject 221
		pay 7 5
		= refused 221
		settle
		= settle 0 0
		cash 7
		= cash 987.88 0.36
		cash 8
		= cash 1011.76 0.36
	`)
	// A loss that a fund and the house bear.
	tells(t, `
		market 0 0 1 30
		= ok
		list ABC 9 0 1 100 262144 262144 4 1 10
		= list 1
		join 7 100 100 9 100 1000000 15 0
		= ok
		join 8 100 100 9 100 1000000 20 0
		= ok
		turn ABC 1
		= ok
		= > 1 0 ABC 0 0 phase 1 100
		turn ABC 2
		= ok
		= > 2 0 ABC 0 0 phase 2 100
		new 7 ABC 1 1 1 200 1 0 0
		= ok
		= > 3 7 ABC 1 0 ack 1 1 200 1 0
		new 8 ABC 1 2 1 200 1 0 0
		= ok
		= > 4 8 ABC 1 0 ack 2 1 200 1 0
		= > 5 8 ABC 1 0 trade 2 200 1
		= > 6 7 ABC 1 0 trade 2 200 1
		turn ABC 4
		= ok
		= > 7 0 ABC 0 0 phase 4 100
		turn ABC 0
		= ok
		= > 8 0 ABC 0 0 phase 0 100
		settle
		= settle 1 0
		= call 7 0.10 -1.00
		settle
		= settle 0 1
		= fall 7 15 30 35
	`)
}

func TestP28_2Asked(t *testing.T) {
	tells(t, ready+`
		new 7 ABC 1 1 1 100 5 0 0
		= ok
		= > 3 7 ABC 1 0 ack 1 1 100 5 0
		new 7 ABC 2 1 1 99 6 2 0
		= ok
		= > 4 7 ABC 2 0 ack 1 1 99 6 2
		new 8 ABC 1 2 1 100 3 0 0
		= ok
		= > 5 8 ABC 1 0 ack 2 1 100 3 0
		= > 6 8 ABC 1 0 trade 2 100 3
		= > 7 7 ABC 1 0 trade 2 100 3
		new 8 ABC 2 2 1 102 4 0 0
		= ok
		= > 8 8 ABC 2 0 ack 2 1 102 4 0
		new 7 ABC 3 1 3 102 1 0 0
		= ok
		= > 9 7 ABC 3 0 ack 1 3 102 1 0
		= > 10 7 ABC 3 0 trade 1 102 1
		= > 11 8 ABC 2 0 trade 1 102 1
		new 8 ABC 3 2 1 103 2 0 0
		= ok
		= > 12 8 ABC 3 0 ack 2 1 103 2 0
		new 7 ABC 4 2 1 103 2 0 0
		= ok
		= > 13 7 ABC 4 0 ack 2 1 103 2 0
		new 8 ABC 4 2 1 99 3 0 0
		= ok
		= > 14 8 ABC 4 0 ack 2 1 99 3 0
		= > 15 8 ABC 4 0 trade 2 100 2
		= > 16 7 ABC 1 0 trade 2 100 2
		= > 17 8 ABC 4 0 trade 2 99 1
		= > 18 7 ABC 2 0 trade 2 99 1
		position 7 ABC
		= position 7 7.01 0.00
		position 8 ABC
		= position -7 -7.01 0.00
		position 7 XYZ
		= position 0 0.00 0.00
		position 9 ABC
		= position 0 0.00 0.00
		risk 7 ABC
		= risk 0 5 2 2 7 0
		risk 8 ABC
		= risk 0 0 5 2 0 7
		risk 9 ABC
		= nobody
		risk 7 XYZ
		= nobody
		book ABC
		= book 2 8 14 1 3
		= buy 2 7 1 99 1 4 2
		= sell 4 8 1 102 3 0 0
		= sell 6 8 1 103 2 0 0
		= sell 7 7 1 103 2 0 0
		book XYZ
		= book 0 0 0 0 0
		bar ABC
		= bar 100 102 99 99 7 4
		bar XYZ
		= bar 0 0 0 0 0 0
		picture ABC
		= picture 13
		= bid 99 1 1
		= ask 102 3 1
		= ask 103 4 2
		picture XYZ
		= picture 0
		page XYZ 9
		= page
		page ABC 1
		= page
		= | BOOK ABC
		= |   1     1            1     99 |    102            3     1
		= | TRADES 4 VOLUME 7 TURNOVER 7.01
		= | OPEN 100 HIGH 102 LOW 99 CLOSE 99 MEAN 100.14
		page ABC 0
		= page
		= | BOOK ABC
		= | TRADES 4 VOLUME 7 TURNOVER 7.01
		= | OPEN 100 HIGH 102 LOW 99 CLOSE 99 MEAN 100.14
		page ABC 999999999
		= page
		= | BOOK ABC
		= |   1     1            1     99 |    102            3     1
		= |   2                           |    103            4     2
		= | TRADES 4 VOLUME 7 TURNOVER 7.01
		= | OPEN 100 HIGH 102 LOW 99 CLOSE 99 MEAN 100.14
		new 7 ABC 9 2 3 99 5 0 0
		= ok
		= > 19 7 ABC 9 0 ack 2 3 99 5 0
		= > 20 7 ABC 9 0 trade 2 99 1
		= > 21 7 ABC 2 0 trade 2 99 1
		= > 22 7 ABC 2 0 refresh 99 2
		= > 23 7 ABC 9 0 trade 2 99 2
		= > 24 7 ABC 2 0 trade 2 99 2
		= > 25 7 ABC 2 0 refresh 99 2
		= > 26 7 ABC 9 0 trade 2 99 2
		= > 27 7 ABC 2 0 trade 2 99 2
	`)
}

// A blank at the end of a page's line stays.
func TestP28_2PageBlanks(t *testing.T) {
	const script = first + "list ABC 9 0 1 100 50 20 4 1 10\njoin 7 9 9 9 9 9999 9 9\nturn ABC 1\nturn ABC 2\nnew 7 ABC 1 1 1 100 5 0 0\npage ABC 2\n"
	told := trace(t, script)
	if !strings.HasSuffix(told, "\n7 page\n7 | BOOK ABC\n7 |   1     1            5    100 |"+strings.Repeat(" ", 26)+"\n7 | TRADES 0 VOLUME 0 TURNOVER 0.00\n") {
		t.Errorf("%q", told)
	}
}

// What is told of a script hangs on that script alone.
func TestP28_2Alone(t *testing.T) {
	const one, other = first + "join 7 9 9 9 9 9999 9 9\ndial 7 ANN\nlogon 7", first + "join 8 9 9 9 9 9999 9 9\ndial 7 ANN\nlogon 7\nmargin 7"
	a, b := trace(t, one), trace(t, other)
	for range 3 {
		sameText(t, trace(t, one), a)
		sameText(t, trace(t, other), b)
	}
	says, _, _, _ := market.Parse(one)
	Spoil(says[1].Args, "99")
	says, _, _, _ = market.Parse(one)
	Same(t, "Args", says[1].Args[0], "7")
}
