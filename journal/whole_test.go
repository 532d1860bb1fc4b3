package journal_test

import (
	"bytes"
	"math"
	"slices"
	"testing"

	"bourse/api"
	"bourse/journal"
	. "bourse/sample"
	"bourse/snapshot"
)

func TestP24_6WhereverItIsCut(t *testing.T) {
	shapes(t, 600, 9, 5, func(t *testing.T, mix *Mixer, m *model) {
		first := m.states[0].size
		for n := range len(m.b) + 1 {
			switch {
			case n < 64:
				refuses(t, "a head that is cut", m.b[:n], api.ErrHead)
			case n < first:
				refuses(t, "a picture that is cut", m.b[:n], api.ErrBook)
			default:
				found(t, m.b[:n], m.behind(n))
			}
		}
	})
}

func TestP24_6CutAndGoneOn(t *testing.T) {
	// What is found behind a cut goes on as the journal did behind that batch; what was cut off is done again, and all is as if there had been no cut.
	shapes(t, 650, 20, 6, func(t *testing.T, mix *Mixer, m *model) {
		first := m.states[0].size
		for range 20 {
			n := first + mix.Below(len(m.b)-first+1)
			s := m.behind(n)
			j := found(t, m.b[:n], s)
			lost := m.now().inputs[len(s.inputs):]
			one := &model{bytes.Clone(m.b[:s.size]), []state{s}}
			for l := range slices.Chunk(lost, 1+mix.Below(5)) {
				does(t, j, one, l...)
			}
			Same(t, "whether the book is the same", SameBook(j.Book(), m.now().book), true)
			Same(t, "Engine", j.Engine(), m.now().engine)
			Same(t, "Count", j.Count(), m.now().count)
		}
	})
}

func TestP24_7GoesOn(t *testing.T) {
	shapes(t, 700, 10, 6, func(t *testing.T, mix *Mixer, m *model) {
		j := replayed(t, m)
		for range 30 {
			k := found(t, j.Bytes(), m.now())
			l := wilds(mix, m.now().book, 6)
			want := m.do(t, l)
			tells(t, k, l, want)
			tells(t, j, l, want)
			isModel(t, k, m)
			isModel(t, j, m)
			switch mix.Below(9) {
			case 0:
				Same(t, "Compact", j.Compact(), k.Compact())
				m = m.compacted(t)
				isModel(t, k, m)
				isModel(t, j, m)
			case 1:
				fails(t, k, []api.Input{to(Cancel(1)), swap(9)}, api.ErrEngine)
			case 2:
				j = k
			}
		}
	})
}

func TestP24_7Apart(t *testing.T) {
	// What one of them does the other one does not know of.
	for _, kind := range Kinds() {
		j, m := made(t, small(), kind)
		does(t, j, m, inputs(Sell(1, 10, 5), Buy(2, 9, 5))...)
		k := replayed(t, m)
		s := m.now()
		does(t, j, m, to(Cancel(1)), swap(1+kind%3))
		is(t, k, s, m.b[:s.size])
		other := &model{bytes.Clone(m.b[:s.size]), []state{s}}
		does(t, k, other, inputs(Buy(3, 10, 5))...)
		isModel(t, j, m)
	}
}

// burst is the bytes with a burst that begins at a bit, the bits of each byte counted from the lowest up.
func burst(b []byte, at int, bits uint32) []byte {
	b = bytes.Clone(b)
	for i := range 32 {
		if bits>>i&1 == 1 {
			b[(at+i)/8] ^= 1 << ((at + i) % 8)
		}
	}
	return b
}

// spoiltAt is how a journal stands of which a bit was turned: as ahead of the batch in which that lies.
func (m *model) spoiltAt(bit int) state { return m.behind(bit / 8) }

func TestP24_8Bursts(t *testing.T) {
	shapes(t, 800, 4, 3, func(t *testing.T, mix *Mixer, m *model) {
		first, bits := 8*m.states[0].size, 8*len(m.b)
		for at := first; at < bits; at++ {
			width := 1 + mix.Below(min(32, bits-at))
			whole := uint32(1<<width - 1)
			for _, turn := range []uint32{1, whole, uint32(mix.Next())&whole | 1} {
				j, n, why := journal.Open(burst(m.b, at, turn))
				want := m.spoiltAt(at)
				if why != api.OK || n != want.size || j.Count() != want.count || !SameBook(j.Book(), want.book) || j.Engine() != want.engine {
					t.Fatalf("burst %x at %d: %d count, %v; wanted %d", turn, at, n, why, want.size)
				}
			}
		}
	})
}

func TestP24_8BurstsOverTheEndOfABatch(t *testing.T) {
	shapes(t, 850, 6, 3, func(t *testing.T, mix *Mixer, m *model) {
		for _, s := range m.states {
			for back := 1; back < 32; back++ {
				at := 8*s.size - back
				// The first bit lies in a batch, and all 32 of them in the journal.
				if at >= 8*m.states[0].size && at+32 <= 8*len(m.b) {
					found(t, burst(m.b, at, math.MaxUint32), m.spoiltAt(at))
					found(t, burst(m.b, at, 1|1<<31), m.spoiltAt(at))
				}
			}
		}
	})
}

func TestP24_8OtherFramesThatAreRight(t *testing.T) {
	// A frame in another one's place has its own sum right; a batch without one of its frames, or behind another one, is none.
	shapes(t, 880, 8, 5, func(t *testing.T, mix *Mixer, m *model) {
		for i, s := range m.states[1:] {
			before := m.states[i]
			gone := slices.Delete(bytes.Clone(m.b), before.size, before.size+64)
			found(t, gone, before)
			if i+2 < len(m.states) {
				found(t, slices.Delete(bytes.Clone(m.b), before.size, s.size), before)
			}
			// Done twice, it counts once.
			twice := slices.Insert(bytes.Clone(m.b), s.size, m.b[before.size:s.size]...)
			found(t, twice, s)
		}
	})
}

func TestP24_9TheBookIsTheInputs(t *testing.T) {
	shapes(t, 900, 10, 8, func(t *testing.T, mix *Mixer, m *model) {
		j := replayed(t, m)
		first := m.states[0].book
		var told []api.Event
		for range 20 {
			l := wilds(mix, m.now().book, 8)
			want := m.do(t, l)
			tells(t, j, l, want)
			told = append(told, want...)
		}
		isModel(t, j, m)
		// Done one by one in any engine, swaps left out: the same book, and in the end the same is told.
		for _, kind := range Kinds() {
			e, why := snapshot.Open(kind, first)
			Same(t, "Open", why, api.OK)
			var all []api.Event
			for _, i := range j.Inputs() {
				if i.Kind == api.ToBook {
					all = append(all, e.Do(i.Command)...)
				}
			}
			Keeps(t, e, j.Book())
			SameList(t, "what Do told", told, all[len(all)-len(told):])
		}
	})
}

func TestP24_9EnginesAreAlike(t *testing.T) {
	// Journals that begin in different engines tell the same, and differ in their heads alone.
	for meet := range 4 {
		mix := Mixer(950 + meet)
		c := api.Config{Capacity: 12, Meet: meet}
		j, m := made(t, c, api.List)
		var others []*journal.Journal
		for _, kind := range Kinds() {
			k, _ := made(t, c, kind)
			others = append(others, k)
		}
		for range 60 {
			l := wilds(&mix, m.now().book, 10)
			want := m.do(t, l)
			tells(t, j, l, want)
			for _, k := range others {
				tells(t, k, l, want)
				SameBytes(t, "the batches", k.Bytes()[64:], j.Bytes()[64:])
				Same(t, "whether it is the same book", SameBook(k.Book(), m.now().book), true)
			}
		}
		isModel(t, j, m)
	}
}

func TestP24_10CompactionCantBeSeen(t *testing.T) {
	shapes(t, 1000, 10, 6, func(t *testing.T, mix *Mixer, m *model) {
		never := replayed(t, m)
		often := replayed(t, m)
		bad := unsayable()
		for range 60 {
			if mix.Below(3) == 0 {
				Same(t, "Compact", often.Compact(), api.OK)
			}
			if mix.Below(4) == 0 {
				// One that is found again behind a compaction is as good.
				k, _, why := journal.Open(often.Bytes())
				Same(t, "Open", why, api.OK)
				often = k
			}
			l := wilds(mix, m.now().book, 6)
			want := m.do(t, l)
			tells(t, never, l, want)
			tells(t, often, l, want)
			for _, why := range []api.Errno{api.ErrMessage, api.ErrField, api.ErrEngine} {
				l := append(l, Pick(mix, bad[why]...))
				fails(t, never, l, why)
				fails(t, often, l, why)
			}
			isModel(t, never, m)
			Same(t, "whether it is the same book", SameBook(often.Book(), never.Book()), true)
			Same(t, "Engine", often.Engine(), never.Engine())
			Same(t, "Count", often.Count(), never.Count())
		}
	})
}
