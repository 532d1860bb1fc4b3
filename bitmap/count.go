package bitmap

import (
	"math/bits"

	"bourse/api"
)

// Len is how many ticks there are.
func (m *Map) Len() int { return m.ahead(api.Ticks) }

// Count is how many ticks there are from one number up to another (without it).
func (m *Map) Count(from, to int) int {
	if to <= from {
		return 0
	}
	return m.ahead(to) - m.ahead(from)
}

// At is the tick that has just so many others below it.
func (m *Map) At(rank int) (int, bool) {
	if rank < 0 {
		return 0, false
	}
	for word := range m.words {
		w := m.low[word]
		n := bits.OnesCount64(w)
		if rank < n {
			return word*width + ranked(w, rank), true
		}
		rank -= n
	}
	return 0, false
}

// ahead is how many ticks of the set are below a number.
func (m *Map) ahead(tick int) int {
	tick = max(tick, 0)
	last := tick / width // beyond the ticks: Low says 0 of it
	n := bits.OnesCount64(notAbove(m.Low(last), tick%width-1))
	for word := range m.words {
		if word >= last {
			break
		}
		n += bits.OnesCount64(m.low[word])
	}
	return n
}

// words goes through the low words that are not 0, rising: through the upper levels, so that few ticks take few looks.
func (m *Map) words(yield func(int) bool) {
	for groups := m.top; groups != 0; groups &= groups - 1 {
		group := lowest(groups)
		for words := m.middle[group]; words != 0; words &= words - 1 {
			if !yield(group*width + lowest(words)) {
				return
			}
		}
	}
}

// ranked is the place of the bit of a word that has just so many others below it.
func ranked(w uint64, rank int) int {
	for range rank {
		w &= w - 1
	}
	return lowest(w)
}
