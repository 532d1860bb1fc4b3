package standby_test

import (
	"bytes"
	"math"
	"slices"
	"testing"

	"bourse/api"
	. "bourse/sample"
	"bourse/standby"
)

// neither ends a test where one of the two is made, or another error is answered.
func neither(t *testing.T, c api.Config, kind int, want api.Errno) {
	t.Helper()
	p, why := standby.NewPrimary(c, kind)
	s, whyNot := standby.NewStandby(c, kind)
	if p != nil || s != nil || why != want || whyNot != want {
		t.Fatalf("of %+v in %d: %v, %v, %v, %v, wanted %v", c, kind, p, why, s, whyNot, want)
	}
}

func TestP25_1New(t *testing.T) {
	for c, can := range Configs() {
		for _, kind := range Kinds() {
			if !can {
				neither(t, c, kind, api.ErrArg)
				continue
			}
			p, s := newLeader(t, c, kind), newFollower(t, c, kind)
			Same(t, "the primary's engine", p.Engine(), kind)
			Same(t, "the standby's engine", s.Engine(), kind)
		}
		for _, kind := range NoKinds() {
			neither(t, c, kind, api.ErrEngine)
		}
	}
}

func TestP25_2Example(t *testing.T) {
	for _, kind := range Kinds() {
		p := newLeader(t, small(), kind)
		order := Sell(1, 10, 5)
		r := p.in(t, asked(t, order))
		isRecord(t, r, 1, asked(t, order))
		Same(t, "Held", p.Held(), 64)
		Same(t, "Told", p.Told(), 0)
		SameBytes(t, "Acked(1)", p.ack(t, 1), framed(t, Numbered(0, Acked(order))...))
		Same(t, "Held", p.Held(), 0)
		Same(t, "Told", p.Told(), 64)
		Same(t, "how much is told again", len(p.ack(t, 1)), 0)
		Same(t, "how much is told of records that there are not", len(p.ack(t, 9)), 0)
		// That 9 was acked, of one record, says nothing of those behind it.
		p.in(t, asked(t, Cancel(1)))
		Same(t, "Held", p.Held(), 64)
		SameBytes(t, "Acked(2)", p.ack(t, 2), framed(t, Numbered(1, Ended(1, 5, api.ByOwner))...))
	}
}

func TestP25_2AckedOfMany(t *testing.T) {
	// Six records: of a frame, of nothing, of half a frame, of the other half and a whole one, of an engine alone, of a spoilt frame.
	order, cancel := asked(t, Buy(1, 9, 3)), asked(t, Cancel(1))
	come := [][]byte{asked(t, Sell(2, 10, 5)), nil, order[:30], slices.Concat(order[30:], cancel), named(t, api.List), make([]byte, 64)}
	holds := []int{64, 64, 64, 64 + 128, 64 + 128, 64 + 128 + 64}
	for from := range len(come) + 1 {
		for _, to := range []uint64{0, 1, 2, 3, 4, 5, 6, 7, 1 << 32, math.MaxUint64} {
			p := newLeader(t, small(), api.Ladder)
			for i, b := range come {
				p.in(t, b)
				Same(t, "Held", p.Held(), holds[i])
			}
			got := slices.Concat(p.ack(t, uint64(from)), p.ack(t, to), p.ack(t, 6))
			SameBytes(t, "all that is told", got, told(t, small(), come))
			Same(t, "how much is told", len(got), holds[5])
			Same(t, "the engine", p.Engine(), api.List)
		}
	}
}

func TestP25_2Model(t *testing.T) {
	shapes(t, 200, 24, 30, func(t *testing.T, mix *Mixer, c api.Config, l [][]byte) {
		p := newLeader(t, c, anyKind(mix))
		var client []byte
		for _, b := range l {
			p.in(t, b)
			for range mix.Below(3) {
				n := uint64(p.acked + mix.Below(5))
				client = append(client, p.ack(t, n-min(n, uint64(mix.Below(3))))...)
			}
		}
		client = append(client, p.ack(t, Pick(mix, uint64(len(l)), uint64(len(l))+1, math.MaxUint64))...)
		SameBytes(t, "all that is told", client, told(t, c, l))
	})
}

func TestP25_2MemoryIsItsOwn(t *testing.T) {
	for _, kind := range Kinds() {
		p := newLeader(t, small(), kind)
		order := asked(t, Sell(1, 10, 5))
		// Half a frame waits in the venue, whatever becomes of what was handed in.
		room := append(make([]byte, 0, 200), order[:40]...)
		r := p.in(t, room)
		SameBytes(t, "the spare room of what was handed in", room[40:200], make([]byte, 160))
		Spoil(room, 0xee)
		Spoil(r.Bytes, 0xee)
		p.is(t)
		p.in(t, order[40:])
		again := p.Again()
		Spoil(again[0].Bytes, 0xee)
		p.is(t)
		SameBytes(t, "another record of the same answer", again[1].Bytes, order[40:])
		again = p.Again()
		Spoil(again, api.Record{Number: 7})
		p.is(t)
		x := p.Book()
		Spoil(x.Sells, api.Resting{ID: 77})
		p.is(t)
		p.in(t, asked(t, Buy(2, 10, 2)))
		first := p.ack(t, 2)
		Spoil(first, 0xee)
		SameBytes(t, "what is told behind it", p.ack(t, 3), framed(t, Numbered(1, Acked(Buy(2, 10, 2)), Traded(2, 1, api.Buy, 10, 2))...))
		p.is(t)
	}
}

func TestP25_3Example(t *testing.T) {
	for _, kind := range Kinds() {
		s := newFollower(t, small(), kind)
		one, two := api.Record{Number: 1, Bytes: asked(t, Sell(1, 10, 5))}, api.Record{Number: 2, Bytes: asked(t, Buy(2, 9, 5))}
		Same(t, "Take of the record 2", s.take(t, two), 0)
		Same(t, "Take of the record 1", s.take(t, one), 2)
		for _, b := range [][]byte{nil, one.Bytes, make([]byte, 100)} {
			n, why := s.Take(api.Record{Bytes: b})
			Same(t, "Take of a record 0", why, api.ErrRecord)
			Same(t, "what is answered beside it", n, 0)
			s.is(t)
		}
		s.shut(t)
		_, first := s.promote(t, 0)
		SameBytes(t, "all that was told", first, framed(t, Numbered(0, Acked(Sell(1, 10, 5)), Acked(Buy(2, 9, 5)))...))
	}
}

// orders is all ways to put so many numbers in a row, from 1 on.
func orders(n int) [][]uint64 {
	l := [][]uint64{nil}
	for i := 1; i <= n; i++ {
		var more [][]uint64
		for _, o := range l {
			for at := range len(o) + 1 {
				more = append(more, slices.Insert(slices.Clone(o), at, uint64(i)))
			}
		}
		l = more
	}
	return l
}

func TestP25_3InWhateverOrder(t *testing.T) {
	order := asked(t, Buy(2, 10, 7))
	come := [][]byte{asked(t, Sell(1, 10, 5)), order[:1], order[1:], nil, slices.Concat(named(t, api.Tree), asked(t, Cancel(2)))}
	for i, o := range orders(len(come)) {
		s := newFollower(t, small(), 1+i%3)
		for _, n := range o {
			// Each comes twice: the second time it changes nothing, whatever its bytes are.
			s.take(t, api.Record{Number: n, Bytes: come[n-1]})
			s.take(t, api.Record{Number: n, Bytes: make([]byte, 64)})
		}
		Same(t, "Has", s.Has(), 5)
		for n := range uint64(5) {
			s.take(t, api.Record{Number: n + 1, Bytes: asked(t, Sell(9, 20, 5))})
		}
		_, first := s.promote(t, 0)
		SameBytes(t, "all that was told", first, told(t, small(), come))
	}
}

func TestP25_3FarAhead(t *testing.T) {
	s := newFollower(t, small(), api.Tree)
	for _, n := range []uint64{math.MaxUint64, 1 << 32, 3, 1 << 63, math.MaxUint64, 9} {
		s.take(t, api.Record{Number: n, Bytes: asked(t, Sell(n, 10, 5))})
	}
	Same(t, "Has", s.Has(), 0)
	s.take(t, api.Record{Number: 1, Bytes: asked(t, Sell(1, 10, 5))})
	Same(t, "Has", s.Has(), 1)
	s.take(t, api.Record{Number: 2})
	Same(t, "Has", s.Has(), 3)
	Same(t, "High", s.Book().High, 3)
}

func TestP25_3MemoryIsItsOwn(t *testing.T) {
	for _, kind := range Kinds() {
		s := newFollower(t, small(), kind)
		order := asked(t, Sell(1, 10, 5))
		for _, r := range []api.Record{{Number: 2, Bytes: order[40:]}, {Number: 1, Bytes: order[:40]}, {Number: 3, Bytes: order[:40]}} {
			room := append(make([]byte, 0, 200), r.Bytes...)
			s.take(t, api.Record{Number: r.Number, Bytes: room})
			SameBytes(t, "what was handed in, and its spare room", room[:200], append(bytes.Clone(r.Bytes), make([]byte, 200-len(r.Bytes))...))
			Spoil(room, 0xee)
			s.is(t)
		}
		x := s.Book()
		Spoil(x.Sells, api.Resting{ID: 77})
		s.is(t)
		p, first := s.promote(t, 0)
		Spoil(first, 0xee)
		p.is(t)
		p.in(t, order[40:])
		SameBytes(t, "what is told behind it", p.ack(t, 4), framed(t, Numbered(1, Rejected(Sell(1, 10, 5), api.ErrID))...))
	}
}

func TestP25_4Promote(t *testing.T) {
	order := asked(t, Buy(2, 10, 7))
	come := [][]byte{asked(t, Sell(1, 10, 5)), named(t, api.List), slices.Concat(order, order[:20])}
	for _, kind := range Kinds() {
		for has := range len(come) + 1 {
			all := len(told(t, small(), come[:has]))
			for client := range all + 1 {
				s := newFollower(t, small(), kind)
				for n, b := range come[:has] {
					s.take(t, api.Record{Number: uint64(n + 1), Bytes: b})
				}
				// These are beyond, and are dropped.
				s.take(t, api.Record{Number: uint64(has + 2), Bytes: asked(t, Sell(7, 9, 1))})
				s.take(t, api.Record{Number: uint64(has + 3), Bytes: asked(t, Sell(8, 9, 1))})
				s.shut(t)
				engine := s.Engine()
				p, _ := s.promote(t, client)
				Same(t, "the engine", p.Engine(), engine)
				Same(t, "how much may be told", len(p.ack(t, math.MaxUint64)), 0)
				// The frame that began ends with what comes next.
				p.in(t, order[20:])
				p.in(t, asked(t, Sell(3, 20, 5)))
				client := slices.Concat(p.ack(t, uint64(has+1)), p.ack(t, uint64(has+2)))
				SameBytes(t, "what is told behind it", client, told(t, small(), p.came)[all:])
			}
		}
	}
}

func TestP25_4OfNothing(t *testing.T) {
	for _, kind := range Kinds() {
		s := newFollower(t, small(), kind)
		s.shut(t)
		s.take(t, api.Record{Number: 1})
		s.take(t, api.Record{Number: 2, Bytes: named(t, api.Ladder)})
		s.shut(t)
		p, first := s.promote(t, 0)
		Same(t, "how much was told", len(first), 0)
		p.in(t, asked(t, Sell(1, 10, 5)))
		Same(t, "how much is told", len(p.ack(t, 3)), 64)
	}
	p, first := newFollower(t, small(), api.Tree).promote(t, 0)
	Same(t, "how much was told", len(first), 0)
	isRecord(t, p.in(t, []byte{1}), 1, []byte{1})
}

// What the calls answer of one that was not made is open; none of them panics.
func TestP25_1NotMade(t *testing.T) {
	var p standby.Primary
	p.Book()
	for _, b := range [][]byte{nil, {1}, asked(t, Sell(1, 10, 5)), make([]byte, 200)} {
		p.In(b)
		p.Again()
		p.Acked(1)
	}
	p.Acked(math.MaxUint64)
	p.Held()
	p.Told()
	var s standby.Standby
	for _, n := range []uint64{0, 2, 1, 1, math.MaxUint64} {
		s.Take(api.Record{Number: n, Bytes: asked(t, Sell(1, 10, 5))})
	}
	s.Has()
	s.Book()
	s.Promote(1)
	if q, _, why := s.Promote(0); why == api.OK {
		q.In(asked(t, Sell(1, 10, 5)))
		q.Book()
	}
}
