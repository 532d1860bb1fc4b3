package standby_test

import (
	"bytes"
	"slices"
	"testing"

	"bourse/api"
	. "bourse/sample"
	"bourse/standby"
	"bourse/venue"
)

// pair is a primary and a standby, what is on its way between them, and what a client was told.
type pair struct {
	p       *leader
	s       *follower
	records []api.Record
	numbers []uint64
	client  []byte
}

func newPair(t *testing.T, mix *Mixer, c api.Config) *pair {
	t.Helper()
	return &pair{p: newLeader(t, c, anyKind(mix)), s: newFollower(t, c, anyKind(mix))}
}

// comes is one of those that are on their way, unless it is lost; now and then it comes again.
func comes[T any](mix *Mixer, way *[]T) (T, bool) {
	var none T
	if len(*way) == 0 {
		return none, false
	}
	i := mix.Below(len(*way))
	one := (*way)[i]
	if mix.Below(4) > 0 {
		*way = slices.Delete(*way, i, i+1)
	}
	return one, mix.Below(6) > 0
}

// step lets something happen; what comes to the primary is the first of these pieces: those that are left.
func (two *pair) step(t *testing.T, mix *Mixer, l [][]byte) [][]byte {
	t.Helper()
	switch n := mix.Below(20); {
	case n < 5 && len(l) > 0:
		two.records = append(two.records, two.p.in(t, l[0]))
		return l[1:]
	case n < 13:
		if r, ok := comes(mix, &two.records); ok {
			two.numbers = append(two.numbers, two.s.take(t, r))
		}
	case n < 18:
		if number, ok := comes(mix, &two.numbers); ok {
			two.client = append(two.client, two.p.ack(t, number)...)
		}
	case n < 19:
		two.records = append(two.records, two.p.Again()...)
	}
	return l
}

// early ends a test where a client was told what no venue tells of the records that the standby has.
func (two *pair) early(t *testing.T, mix *Mixer) {
	t.Helper()
	all, why := venue.Run(two.s.config, anyKind(mix), slices.Concat(two.s.all()...))
	Same(t, "Run", why, api.OK)
	if !bytes.HasPrefix(all, two.client) {
		t.Fatalf("told %d bytes that are no beginning of the %d of the records up to %d", len(two.client), len(all), two.s.Has())
	}
}

func TestP25_5NothingIsToldTooEarly(t *testing.T) {
	shapes(t, 500, 24, 24, func(t *testing.T, mix *Mixer, c api.Config, l [][]byte) {
		two := newPair(t, mix, c)
		for range 6 * len(l) {
			l = two.step(t, mix, l)
			two.early(t, mix)
		}
		Same(t, "whether something was told", len(two.client) > 0, true)
		// A standby that has the records that were acked, and no others, tells just that.
		other := newFollower(t, c, anyKind(mix))
		for n, b := range two.p.came[:two.p.acked] {
			other.take(t, api.Record{Number: uint64(n + 1), Bytes: b})
		}
		_, all := other.promote(t, 0)
		SameBytes(t, "what such a standby tells", all, two.client)
	})
}

// counts is how often a takeover was of some sort.
type counts struct{ lost, waiting, beyond, untold, unheard int }

// count looks at a pair whose standby is about to be promoted, with so much that the client was told.
func (k *counts) count(two *pair, client int) {
	all := two.s.all()
	has := uint64(len(all))
	for _, is := range []struct {
		so    bool
		count *int
	}{
		{len(two.p.came) > len(all), &k.lost},
		{len(slices.Concat(all...))%64 > 0, &k.waiting},
		{len(two.s.took) > len(all), &k.beyond},
		{uint64(two.p.acked) < has, &k.untold},
		{client < len(two.client), &k.unheard},
	} {
		if is.so {
			*is.count++
		}
	}
}

func TestP25_6Takeover(t *testing.T) {
	var k counts
	shapes(t, 600, 120, 20, func(t *testing.T, mix *Mixer, c api.Config, l [][]byte) {
		two := newPair(t, mix, c)
		for range mix.Below(6 * len(l)) {
			l = two.step(t, mix, l)
		}
		// The client may have heard less than it was told.
		client := len(two.client) - mix.Below(len(two.client)+1)*mix.Below(2)
		k.count(two, client)
		two.s.shut(t)
		q, first := two.s.promote(t, client)
		heard := slices.Concat(two.client[:client], first)
		for _, b := range pieces(mix, stream(t, mix, c, 8)) {
			q.in(t, b)
			heard = append(heard, q.ack(t, uint64(len(q.came)-mix.Below(3)))...)
		}
		heard = append(heard, q.ack(t, uint64(len(q.came)))...)
		SameBytes(t, "what the client was told by both", heard, told(t, c, q.came))
	})
	for _, n := range []int{k.lost, k.waiting, k.beyond, k.untold, k.unheard} {
		if n < 15 {
			t.Fatalf("how often takeovers were of each sort: %+v", k)
		}
	}
}

func TestP25_6AtAnyTime(t *testing.T) {
	// However many records were acked, and however many more the standby has, the client is told each event once, and nothing of what was lost.
	come := [][]byte{asked(t, Sell(1, 10, 5), Sell(2, 10, 5)), named(t, api.Tree), asked(t, Buy(3, 11, 7)), asked(t, Cancel(1), Cancel(2)), make([]byte, 64)}
	for has := range len(come) + 1 {
		for acked := range has + 1 {
			p, s := newLeader(t, small(), 1+has%3), newFollower(t, small(), 1+acked%3)
			for n, b := range come {
				if r := p.in(t, b); n < has {
					s.take(t, r)
				}
			}
			client := p.ack(t, uint64(acked))
			q, first := s.promote(t, len(client))
			client = append(client, first...)
			SameBytes(t, "what the client was told by both", client, told(t, small(), come[:has]))
			q.in(t, asked(t, Buy(4, 11, 1)))
			client = append(client, q.ack(t, uint64(has+1))...)
			SameBytes(t, "what the client was told by both", client, told(t, small(), append(slices.Clone(come[:has]), asked(t, Buy(4, 11, 1)))))
		}
	}
}

// follows lets a standby take records from the first one on.
func follows(t *testing.T, mix *Mixer, c api.Config, l [][]byte) *follower {
	t.Helper()
	s := newFollower(t, c, anyKind(mix))
	for n, b := range l {
		s.take(t, api.Record{Number: uint64(n + 1), Bytes: b})
	}
	return s
}

// alike ends a test where two primaries answer differently.
func alike(t *testing.T, a, b *standby.Primary) {
	t.Helper()
	Same(t, "Told", a.Told(), b.Told())
	Same(t, "Held", a.Held(), b.Held())
	Same(t, "whether the books are the same", SameBook(a.Book(), b.Book()), true)
	again, other := a.Again(), b.Again()
	Same(t, "how many records are not acked", len(again), len(other))
	for i, r := range again {
		isRecord(t, other[i], int(r.Number), r.Bytes)
	}
}

func TestP25_7AsOneThatWasNeverAnythingElse(t *testing.T) {
	shapes(t, 700, 40, 30, func(t *testing.T, mix *Mixer, c api.Config, l [][]byte) {
		at := mix.Below(len(l) + 1)
		never, why := standby.NewPrimary(c, anyKind(mix))
		Same(t, "NewPrimary", why, api.OK)
		for _, b := range l[:at] {
			never.In(b)
		}
		all := never.Acked(uint64(at))
		q, first := follows(t, mix, c, l[:at]).promote(t, 0)
		SameBytes(t, "what is told first", first, all)
		alike(t, q.Primary, never)
		for _, b := range l[at:] {
			r := q.In(b)
			isRecord(t, never.In(b), int(r.Number), r.Bytes)
			alike(t, q.Primary, never)
			n := r.Number - min(r.Number, uint64(mix.Below(6)))
			SameBytes(t, "Acked", q.Acked(n), never.Acked(n))
			alike(t, q.Primary, never)
		}
	})
}

func TestP25_7OneTakeoverBehindTheOther(t *testing.T) {
	// Each primary in its turn is followed by a standby that has all that it had when its turn began, and loses what it told nobody of.
	shapes(t, 770, 20, 30, func(t *testing.T, mix *Mixer, c api.Config, l [][]byte) {
		two := newPair(t, mix, c)
		for len(l) > 0 {
			for range 12 {
				l = two.step(t, mix, l)
			}
			two.early(t, mix)
			q, first := two.s.promote(t, len(two.client))
			two = &pair{p: q, s: follows(t, mix, c, q.came), client: slices.Concat(two.client, first)}
			SameBytes(t, "what the client was told", two.client, told(t, c, q.came))
		}
	})
}

func TestP25_7Apart(t *testing.T) {
	// What one of two does the other one does not know of, though they were made alike.
	for _, kind := range Kinds() {
		p, other := newLeader(t, small(), kind), newLeader(t, small(), kind)
		s, second := newFollower(t, small(), kind), newFollower(t, small(), kind)
		r := p.in(t, asked(t, Sell(1, 10, 5)))
		s.take(t, r)
		other.is(t)
		second.is(t)
		q, _ := s.promote(t, 0)
		q.in(t, asked(t, Cancel(1)))
		p.is(t)
		p.ack(t, 1)
		q.is(t)
	}
}
