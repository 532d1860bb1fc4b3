package market

import (
	"math"
	"strings"

	"bourse/api"
	"bourse/naming"
)

// beginning is the word of the command with which a script begins, and which is there only once.
const beginning = "market"

const (
	longestName   = 8
	longestClient = 16
	mostSmall     = 999999999 // the greatest number of the kind i
)

// script is what was read of one so far.
type script struct {
	commands map[string]command
	says     []api.Saying
}

// word is a run of bytes that are no blanks, and where it begins.
type word struct {
	at   int
	text string
}

func wordsOf(line string) []word {
	var l []word
	at := 0
	for _, run := range strings.Split(line, " ") {
		if run != "" {
			l = append(l, word{at, run})
		}
		at += len(run) + 1
	}
	return l
}

// read reads the next line; with an error the place of it.
func (s *script) read(number int, line string) (int, api.Errno) {
	if len(line) > api.MaxLine {
		return api.MaxLine, api.ErrLong
	}
	words := wordsOf(line)
	if len(words) == 0 || words[0].text[0] == '#' {
		return 0, api.OK
	}
	if len(s.says) == api.MaxSays {
		return 0, api.ErrLong
	}
	first := words[0]
	c, known := s.commands[first.text]
	if !known || (first.text == beginning) != (len(s.says) == 0) {
		return first.at, api.ErrScript
	}
	further, at, ok := c.take(words[1:], len(line))
	if !ok {
		return at, api.ErrScript
	}
	s.says = append(s.says, api.Saying{Line: number, Word: first.text, Args: further})
	return 0, api.OK
}

// take is a command's further words; false: at that place one can't be what it must, one is missing, or one is too many.
func (c command) take(words []word, end int) ([]string, int, bool) {
	var l []string
	for i, kind := range []byte(c.kinds) {
		if i == len(words) {
			return nil, end, false
		}
		if w := words[i]; !isOf(kind, w.text) {
			return nil, w.at, false
		}
		l = append(l, words[i].text)
	}
	if len(words) > len(c.kinds) {
		return nil, words[len(c.kinds)].at, false
	}
	return l, 0, true
}

// isOf tells whether a word is of a kind.
func isOf(kind byte, word string) bool {
	n, ok := numeral(word)
	switch kind {
	case 'N':
		return naming.Is(word, longestName)
	case 'C':
		return naming.Is(word, longestClient)
	case 'm':
		return ok && 1 <= n && n <= math.MaxUint32
	case 'i':
		return ok && n <= mostSmall
	}
	return ok
}
