package market_test

import (
	"strings"
	"testing"
)

// both is ready, with the clients of 7 and 8, that of 7 logged on.
const both = ready + `
		dial 7 ANN
		= ok
		dial 8 BRS
		= ok
		logon 7
		= sent 1 1
		pass 7 1
		= ok
		fetch 7
		= fetch 1 0 0
`

func TestP28_2Letters(t *testing.T) {
	tells(t, both+`
		mailnew 7 ABC 2 1 1 99 1 0 0
		= sent 2 2
		pass 7 2
		= ok
		again 7 2
		= ok
		fetch 7
		= fetch 1 1 0
		= letter 8 55=ABC 17=3 150=1 11=2 1=7 54=1 40=1 44=99 38=1 210=0
		mailnew 7 ABC 3 2 1 103 9 3 1
		= sent 3 3
		mailreplace 7 ABC 3 4 104 5 0
		= sent 4 4
		mailcancel 7 ABC 2
		= sent 5 5
		pass 7 3
		= ok
		pass 7 4
		= ok
		pass 7 5
		= ok
		book ABC
		= book 2 3 7 0 1
		= sell 3 7 1 104 5 0 0
		fetch 7
		= fetch 4 4 0
		= letter 8 55=ABC 17=4 150=1 11=3 1=7 54=2 40=1 44=103 38=9 210=3
		= letter 8 55=ABC 17=5 150=4 11=3 38=9 378=2
		= letter 8 55=ABC 17=6 150=1 11=4 1=7 54=2 40=1 44=104 38=5 210=0
		= letter 8 55=ABC 17=7 150=4 11=2 38=1 378=1
		new 8 ABC 1 1 1 104 2 0 0
		= ok
		= > 8 8 ABC 1 0 ack 1 1 104 2 0
		= > 9 8 ABC 1 0 trade 1 104 2
		= > 10 7 ABC 4 0 trade 1 104 2
		fetch 8
		= fetch 0 0 0
		kill 7
		= ok
		= > 11 7 ABC 4 0 cancel 3 1
		mailcancel 7 ABC 9
		= sent 6 6
		pass 7 6
		= ok
		mailnew 7 NONE 3 2 1 103 9 3 0
		= sent 7 7
		pass 7 7
		= ok
		fetch 7
		= fetch 4 4 0
		= letter 8 55=ABC 17=10 150=3 11=4 37=0 54=2 44=104 38=2
		= letter 8 55=ABC 17=11 150=4 11=4 38=3 378=1
		= letter 8 55=ABC 17=12 150=2 11=0 41=9 103=91
		= letter 3 58=41
	`)
}

// A new order is for the day where DAY is 1, and only there.
func TestP28_2MailDay(t *testing.T) {
	for day, left := range map[string]string{"0": "1 0\n\t\t= buy 1 7 1 99 1 0 0", "1": "0 0", "2": "1 0\n\t\t= buy 1 7 1 99 1 0 0", "999999999": "1 0\n\t\t= buy 1 7 1 99 1 0 0"} {
		ends := ""
		seq := 5
		if day == "1" {
			ends, seq = "= > 5 7 ABC 2 0 cancel 1 6\n", 6
		}
		tells(t, both+`
			mailnew 7 ABC 2 1 1 99 1 0 `+day+`
			= sent 2 2
			pass 7 2
			= ok
			turn ABC 4
			= ok
			= > 4 0 ABC 0 0 phase 4 100
			turn ABC 0
			= ok
			`+ends+`= > `+digits(seq)+` 0 ABC 0 0 phase 0 100
			book ABC
			= book 0 1 `+digits(seq)+` `+left)
	}
}

// What a letter can't say is refused by the line that it would be, even where nothing could be sent; all else by the session.
func TestP28_2MailRefused(t *testing.T) {
	tells(t, both+`
		mailnew 7 ABC 3 256 1 103 9 3 0
		= refused 40
		mailnew 7 ABC 3 2 999 103 9 3 0
		= refused 40
		mailnew 7 ABC 3 255 255 999999999 18446744073709551615 18446744073709551615 0
		= sent 2 2
		mailnew 8 ABC 3 256 1 103 9 3 0
		= refused 40
		mailnew 8 ABC 3 2 1 103 9 3 0
		= refused 230
		mailcancel 8 ABC 3
		= refused 230
		mailreplace 8 ABC 3 4 1 1 1
		= refused 230
		mailreplace 7 ABC 18446744073709551615 18446744073709551615 999999999 18446744073709551615 18446744073709551615
		= sent 3 3
		mailcancel 7 ABC 18446744073709551615
		= sent 4 4
		mailcancel 7 ABC 0
		= sent 5 5
		pass 7 2
		= ok
		pass 7 3
		= ok
		pass 7 4
		= ok
		pass 7 5
		= ok
		fetch 7
		= fetch 4 4 0
		= letter 8 55=ABC 17=3 150=2 11=3 41=0 103=213
		= letter 8 55=ABC 17=4 150=2 11=18446744073709551615 41=18446744073709551615 103=213
		= letter 8 55=ABC 17=5 150=2 11=0 41=18446744073709551615 103=91
		= letter 8 55=ABC 17=6 150=2 11=0 41=0 103=91
	`)
}

func TestP28_2Nobody(t *testing.T) {
	tells(t, ready+`
		dial 9 ANN
		= refused 200
		dial 8 BEN
		= ok
		dial 8 BEN
		= refused 81
		dial 8 ANN
		= refused 81
		logon 7
		= nobody
		logoff 7
		= nobody
		ticks 7
		= nobody
		fetch 7
		= nobody
		drop 7
		= nobody
		pass 7 0
		= nobody
		again 7 1
		= nobody
		mailnew 7 ABC 1 1 1 1 1 0 0
		= nobody
		mailnew 7 ABC 1 256 1 1 1 0 0
		= nobody
		mailcancel 7 ABC 1
		= nobody
		mailreplace 7 ABC 1 2 3 4 5
		= nobody
		logon 9
		= nobody
		fetch 9
		= nobody
		dial 7 ANN
		= ok
		logon 7
		= sent 1 1
		tick
		= ok
	`)
}

func TestP28_2Session(t *testing.T) {
	tells(t, ready+`
		dial 7 ANN
		= ok
		logoff 7
		= refused 230
		ticks 7
		= sent 0 0
		logon 7
		= sent 1 1
		logon 7
		= refused 231
		pass 7 1
		= ok
		fetch 7
		= fetch 1 0 0
		logoff 7
		= sent 2 2
		logoff 7
		= refused 230
		pass 7 2
		= ok
		fetch 7
		= fetch 1 0 0
		logon 7
		= sent 3 3
		pass 7 3
		= ok
		drop 7
		= drop 1
		drop 7
		= drop 0
		fetch 7
		= fetch 0 0 0
	`)
}

// Behind ten quiet ticks comes a beat, and behind twenty calm ones an ask with it: both are numbered as its lines.
func TestP28_2Ticks(t *testing.T) {
	var b strings.Builder
	b.WriteString(both)
	for n := 1; n <= 20; n++ {
		told := "sent 0 0"
		switch n {
		case 10:
			told = "sent 2 2"
		case 20:
			told = "sent 3 4"
		}
		b.WriteString("ticks 7\n= " + told + "\n")
	}
	for n := 1; n <= 10; n++ {
		b.WriteString("tick\n= ok\n")
	}
	b.WriteString("fetch 7\n= fetch 1 0 0\nfetch 8\n= fetch 0 0 0\n")
	tells(t, b.String())
}

// A line is passed once, and again as often as is asked; whether the exchange takes it does not matter.
func TestP28_2Pass(t *testing.T) {
	tells(t, both+`
		pass 7 0
		= missing
		again 7 0
		= missing
		pass 7 1
		= missing
		again 7 1
		= ok
		pass 7 2
		= missing
		again 7 2
		= missing
		pass 7 999999999
		= missing
		again 7 999999999
		= missing
		pass 8 1
		= missing
		again 8 1
		= missing
		mailcancel 7 ABC 1
		= sent 2 2
		again 7 2
		= ok
		pass 7 2
		= missing
		again 7 2
		= ok
		mailcancel 7 ABC 1
		= sent 3 3
		pass 7 3
		= ok
		pass 7 3
		= missing
		logon 8
		= sent 1 1
		pass 8 1
		= ok
		pass 8 1
		= missing
		fetch 8
		= fetch 1 0 0
	`)
}

// What is missing is asked for and sent again, each line under a number of its own; what came twice is handed on once.
func TestP28_2Missed(t *testing.T) {
	tells(t, both+`
		mailnew 7 ABC 1 1 1 99 1 0 0
		= sent 2 2
		mailnew 7 ABC 2 1 1 98 1 0 0
		= sent 3 3
		mailnew 7 ABC 3 1 1 97 1 0 0
		= sent 4 4
		pass 7 4
		= ok
		pass 7 3
		= ok
		book ABC
		= book 2 0 2 0 0
		fetch 7
		= fetch 1 0 3
		pass 7 8
		= missing
		pass 7 5
		= ok
		again 7 5
		= ok
		pass 7 6
		= ok
		pass 7 7
		= ok
		pass 7 2
		= ok
		book ABC
		= book 2 3 5 3 0
		= buy 1 7 1 99 1 0 0
		= buy 2 7 1 98 1 0 0
		= buy 3 7 1 97 1 0 0
		drop 7
		= drop 3
		mailcancel 7 ABC 3
		= sent 8 8
		pass 7 8
		= ok
		fetch 7
		= fetch 1 0 1
		pass 7 9
		= ok
		fetch 7
		= fetch 4 4 0
		= letter 8 55=ABC 17=3 150=1 11=1 1=7 54=1 40=1 44=99 38=1 210=0
		= letter 8 55=ABC 17=4 150=1 11=2 1=7 54=1 40=1 44=98 38=1 210=0
		= letter 8 55=ABC 17=5 150=1 11=3 1=7 54=1 40=1 44=97 38=1 210=0
		= letter 8 55=ABC 17=6 150=4 11=3 38=1 378=1
	`)
}

// Letters wait from when they are told, whoever asked; those that come while nobody is on are lost.
func TestP28_2Waiting(t *testing.T) {
	tells(t, ready+`
		dial 7 ANN
		= ok
		new 7 ABC 1 1 1 100 5 0 0
		= ok
		= > 3 7 ABC 1 0 ack 1 1 100 5 0
		logon 7
		= sent 1 1
		new 7 ABC 2 1 1 100 5 0 0
		= ok
		= > 4 7 ABC 2 0 ack 1 1 100 5 0
		pass 7 1
		= ok
		new 7 ABC 3 1 1 100 5 0 0
		= ok
		= > 5 7 ABC 3 0 ack 1 1 100 5 0
		new 8 ABC 1 2 1 100 6 0 0
		= ok
		= > 6 8 ABC 1 0 ack 2 1 100 6 0
		= > 7 8 ABC 1 0 trade 2 100 5
		= > 8 7 ABC 1 0 trade 2 100 5
		= > 9 8 ABC 1 0 trade 2 100 1
		= > 10 7 ABC 2 0 trade 2 100 1
		turn ABC 4
		= ok
		= > 11 0 ABC 0 0 phase 4 100
		fetch 7
		= fetch 4 3 0
		= letter 8 55=ABC 17=5 150=1 11=3 1=7 54=1 40=1 44=100 38=5 210=0
		= letter 8 55=ABC 17=8 150=3 11=1 37=0 54=1 44=100 38=5
		= letter 8 55=ABC 17=10 150=3 11=2 37=0 54=1 44=100 38=1
	`)
}
