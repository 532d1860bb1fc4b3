package market

import (
	"strconv"
	"strings"

	"bourse/api"
	"bourse/exchange"
	"bourse/text"
)

// market is the exchange (nil ahead of its making, and where that was refused), and the clients of those members that were dialled.
type market struct {
	whole   *exchange.Exchange
	clients map[uint32]*client
}

// command is what a word asks for: the kinds of its further words, as chapter 28 names them, and what does it and tells its lines.
type command struct {
	kinds string
	do    func(a args) []string
}

func (m *market) commands() map[string]command {
	return map[string]command{
		beginning:     {"iiin", m.begin},
		"list":        {"Niiiiiiiii", m.list},
		"join":        {"mnninnnn", m.join},
		"pay":         {"mn", m.pay},
		"new":         {"mNniiinni", m.sendNew},
		"cancel":      {"mNn", m.sendCancel},
		"withdraw":    {"mNn", m.sendWithdraw},
		"replace":     {"mNnninn", m.sendReplace},
		"stop":        {"mNniiiinn", m.sendStop},
		"turn":        {"Ni", m.turn},
		"engine":      {"Ni", m.engine},
		"kill":        {"m", m.kill},
		"revive":      {"m", m.revive},
		"settle":      {"", m.settle},
		"cash":        {"m", m.cash},
		"margin":      {"m", m.margin},
		"position":    {"mN", m.position},
		"risk":        {"mN", m.risk},
		"book":        {"N", m.book},
		"bar":         {"N", m.bar},
		"picture":     {"N", m.picture},
		"page":        {"Ni", m.page},
		"dial":        {"mC", m.dial},
		"logon":       {"m", m.logOn},
		"logoff":      {"m", m.logOff},
		"fetch":       {"m", m.fetch},
		"drop":        {"m", m.drop},
		"ticks":       {"m", m.ticks},
		"mailnew":     {"mNniiinni", m.mailNew},
		"mailcancel":  {"mNn", m.mailCancel},
		"mailreplace": {"mNnninn", m.mailReplace},
		"pass":        {"mi", m.pass},
		"again":       {"mi", m.again},
		"tick":        {"", m.tick},
	}
}

// play does commands, one behind the other: their trace.
func (m *market) play(says []api.Saying) string {
	var b strings.Builder
	commands := m.commands()
	for _, s := range says {
		for _, line := range m.one(commands[s.Word], s) {
			b.WriteString(strconv.Itoa(s.Line) + " " + line + "\n")
		}
	}
	return b.String()
}

// one does a command, if there is an exchange, or it is the one that makes it.
func (m *market) one(c command, s api.Saying) []string {
	if m.whole == nil && s.Word != beginning {
		return []string{"nothing"}
	}
	return c.do(s.Args)
}

// args is a command's further words, each of its kind. Most commands name a member first.
type args []string

func (a args) number(i int) uint64 {
	n, _ := numeral(a[i])
	return n
}

func (a args) small(i int) int { return int(a.number(i)) }

func (a args) short(i int) uint32 { return uint32(a.number(i)) }

func (a args) member() uint32 { return a.short(0) }

// numeral reads a number in decimal without zeros ahead; false: it is none.
func numeral(word string) (uint64, bool) {
	n, err := strconv.ParseUint(word, 10, 64)
	return n, err == nil && text.Decimal(n) == word
}
