package console

import (
	"strconv"
	"strings"

	"bourse/api"
	"bourse/text"
)

// How many places numbers have in a report, if they are not longer.
const (
	placesRank  = 3
	placesCount = 5
	placesQty   = 12
	placesPrice = 6
	placesLevel = placesCount + placesQty + placesPrice + 3 // and a blank ahead of each
)

// Report is a book's best levels, as many as most of each side, and what trades told, as a text.
func Report(name string, e api.Engine, s *Stats, most int) string {
	if s == nil {
		s = NewStats()
	}
	var b strings.Builder
	b.WriteString("BOOK " + name + "\n")
	if e != nil {
		writeLevels(&b, e.Depth(api.Buy, most), e.Depth(api.Sell, most))
	}
	writeTrades(&b, s)
	return b.String()
}

// writeLevels writes both sides' levels side by side.
func writeLevels(b *strings.Builder, buys, sells []api.Level) {
	for i := range max(len(buys), len(sells)) {
		left, right := strings.Repeat(" ", placesLevel), strings.Repeat(" ", placesLevel)
		if i < len(buys) {
			l := buys[i]
			left = countOf(l) + qtyOf(l) + priceOf(l)
		}
		if i < len(sells) {
			l := sells[i]
			right = priceOf(l) + qtyOf(l) + countOf(l)
		}
		b.WriteString(places(strconv.Itoa(i+1), placesRank) + left + " |" + right + "\n")
	}
}

func countOf(l api.Level) string { return " " + places(strconv.Itoa(l.Count), placesCount) }

func qtyOf(l api.Level) string { return " " + places(text.Decimal(l.Qty), placesQty) }

func priceOf(l api.Level) string { return " " + places(strconv.Itoa(l.Price), placesPrice) }

// places is a number's text with blanks ahead, so that it has so many places.
func places(number string, n int) string {
	return strings.Repeat(" ", max(0, n-len(number))) + number
}

// writeTrades writes what came of all trades, and, if there are some, what the day was like.
func writeTrades(b *strings.Builder, s *Stats) {
	day := s.Day()
	b.WriteString("TRADES " + strconv.Itoa(day.Trades) + " VOLUME " + text.Decimal(day.Volume) + " TURNOVER " + s.Turnover().Text() + "\n")
	if day.Trades == 0 {
		return
	}
	b.WriteString("OPEN " + strconv.Itoa(day.Open) + " HIGH " + strconv.Itoa(day.High) + " LOW " + strconv.Itoa(day.Low) + " CLOSE " + strconv.Itoa(day.Close))
	b.WriteString(" MEAN " + meanOf(s) + "\n")
}

// meanOf is the mean price in ticks, with its hundredths.
func meanOf(s *Stats) string {
	n, ok := s.Mean()
	if !ok {
		return "-"
	}
	return text.Decimal(n/100) + "." + text.Decimal(n%100/10) + text.Decimal(n%10)
}
