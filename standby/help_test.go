package standby_test

import (
	"bytes"
	"math"
	"slices"
	"testing"

	"bourse/api"
	"bourse/message"
	. "bourse/sample"
	"bourse/standby"
	"bourse/venue"
	"bourse/wire"
)

// The tests hold every answer against models that keep records alone: what must be told of them is found anew each time, by a new venue over a list book that is fed all their bytes at once.

// small is the config of the chapter's examples.
func small() api.Config { return api.Config{Capacity: 4} }

// said is the frame of an input.
func said(t *testing.T, i api.Input) []byte {
	t.Helper()
	f, why := message.Pack(i)
	Same(t, "Pack", why, api.OK)
	b := wire.Pack(f)
	return b[:]
}

// asked is the frames of commands, one behind the other.
func asked(t *testing.T, l ...api.Command) []byte {
	t.Helper()
	var b []byte
	for _, c := range l {
		b = append(b, said(t, api.Input{Kind: api.ToBook, Command: c})...)
	}
	return b
}

// named is the frame that names an engine.
func named(t *testing.T, engine int) []byte {
	t.Helper()
	return said(t, api.Input{Kind: api.ToEngine, Engine: engine})
}

// framed is the frames of events, one behind the other.
func framed(t *testing.T, l ...api.Event) []byte {
	t.Helper()
	var all []byte
	for _, e := range l {
		f, why := message.PackEvent(e)
		Same(t, "PackEvent", why, api.OK)
		b := wire.Pack(f)
		all = append(all, b[:]...)
	}
	return all
}

// stream is so many frames as a client may send them: most are of commands that a book may well take, some name an engine that there is or not, and some are spoilt.
func stream(t *testing.T, mix *Mixer, c api.Config, count int) []byte {
	t.Helper()
	v, _ := fed(t, c, nil)
	prices := 3 + mix.Below(8)
	var all []byte
	for range count {
		x := v.Book()
		order := Trimmed(Likely(mix, x.High, prices))
		if l := slices.Concat(x.Buys, x.Sells); order.Target > 0 && len(l) > 0 {
			order.Target = Pick(mix, l...).ID
		}
		b := asked(t, order)
		switch mix.Below(12) {
		case 0, 1:
			b = named(t, mix.Below(5))
		case 2:
			b[mix.Below(64)] ^= 1 << mix.Below(8)
		}
		v.Feed(b)
		all = append(all, b...)
	}
	return all
}

// pieces is bytes as they come: in pieces that may be whole frames, less or more of them, or nothing.
func pieces(mix *Mixer, b []byte) [][]byte {
	most := Pick(mix, 1, 64, 65, 100, 200)
	var l [][]byte
	for len(b) > 0 {
		n := min(len(b), Pick(mix, 0, 64, 128, mix.Below(most+1), mix.Below(most+1)))
		// A byte alone, most of the time, would be too many pieces.
		if most == 1 {
			n = min(len(b), Pick(mix, 1, 61, 64, 66))
		}
		l, b = append(l, b[:n]), b[n:]
	}
	return l
}

// fed is a new venue over a list book that was fed bytes, and what it told.
func fed(t *testing.T, c api.Config, b []byte) (*venue.Venue, []byte) {
	t.Helper()
	v, why := venue.New(c, api.List)
	Same(t, "venue.New", why, api.OK)
	return v, v.Feed(b)
}

// told is what must be told of records.
func told(t *testing.T, c api.Config, l [][]byte) []byte {
	t.Helper()
	_, b := fed(t, c, slices.Concat(l...))
	return b
}

// bookOf is the book behind records.
func bookOf(t *testing.T, c api.Config, l [][]byte) api.Book {
	t.Helper()
	v, _ := fed(t, c, slices.Concat(l...))
	return v.Book()
}

// keeps ends a test where a book is not the one behind records.
func keeps(t *testing.T, x api.Book, c api.Config, l [][]byte) {
	t.Helper()
	if want := bookOf(t, c, l); !SameBook(x, want) {
		t.Fatalf("Book: got %+v, wanted %+v", x, want)
	}
}

// leader is a primary, and what it must be: the records that came, and how many of them were acked.
type leader struct {
	*standby.Primary
	config api.Config
	came   [][]byte
	acked  int
}

// newLeader is a new one.
func newLeader(t *testing.T, c api.Config, kind int) *leader {
	t.Helper()
	p, why := standby.NewPrimary(c, kind)
	if p == nil || why != api.OK {
		t.Fatalf("NewPrimary(%+v, %d): %v", c, kind, why)
	}
	l := &leader{Primary: p, config: c}
	l.is(t)
	return l
}

// is ends a test where a primary is another one than it must be.
func (l *leader) is(t *testing.T) {
	t.Helper()
	may := len(told(t, l.config, l.came[:l.acked]))
	Same(t, "Told", l.Told(), uint64(may))
	Same(t, "Held", l.Held(), len(told(t, l.config, l.came))-may)
	keeps(t, l.Book(), l.config, l.came)
	again := l.Again()
	Same(t, "how many records are not acked", len(again), len(l.came)-l.acked)
	for i, r := range again {
		isRecord(t, r, l.acked+i+1, l.came[l.acked+i])
	}
}

func isRecord(t *testing.T, r api.Record, number int, b []byte) {
	t.Helper()
	Same(t, "the number of a record", r.Number, uint64(number))
	SameBytes(t, "a record", r.Bytes, b)
}

// in lets bytes come: their record.
func (l *leader) in(t *testing.T, b []byte) api.Record {
	t.Helper()
	l.came = append(l.came, bytes.Clone(b))
	r := l.In(b)
	isRecord(t, r, len(l.came), b)
	l.is(t)
	return r
}

// ack tells it that all up to a number were taken: what it tells.
func (l *leader) ack(t *testing.T, n uint64) []byte {
	t.Helper()
	before := len(told(t, l.config, l.came[:l.acked]))
	l.acked = max(l.acked, int(min(n, uint64(len(l.came)))))
	b := l.Acked(n)
	SameBytes(t, "Acked", b, told(t, l.config, l.came[:l.acked])[before:])
	l.is(t)
	return b
}

// follower is a standby, and what it must be: the records that it took, by their numbers.
type follower struct {
	*standby.Standby
	config api.Config
	took   map[uint64][]byte
}

// newFollower is a new one.
func newFollower(t *testing.T, c api.Config, kind int) *follower {
	t.Helper()
	s, why := standby.NewStandby(c, kind)
	if s == nil || why != api.OK {
		t.Fatalf("NewStandby(%+v, %d): %v", c, kind, why)
	}
	f := &follower{s, c, map[uint64][]byte{}}
	f.is(t)
	return f
}

// all is the records from the first one on of which none is missing.
func (f *follower) all() [][]byte {
	var l [][]byte
	for n := uint64(1); ; n++ {
		b, ok := f.took[n]
		if !ok {
			return l
		}
		l = append(l, b)
	}
}

// is ends a test where a standby is another one than it must be.
func (f *follower) is(t *testing.T) {
	t.Helper()
	l := f.all()
	Same(t, "Has", f.Has(), uint64(len(l)))
	keeps(t, f.Book(), f.config, l)
}

// take lets it take a record that can be: the number up to which it has all.
func (f *follower) take(t *testing.T, r api.Record) uint64 {
	t.Helper()
	if _, ok := f.took[r.Number]; !ok {
		f.took[r.Number] = bytes.Clone(r.Bytes)
	}
	n, why := f.Take(r)
	Same(t, "what is wrong with a record", why, api.OK)
	Same(t, "up to which number it has all", n, uint64(len(f.all())))
	f.is(t)
	return n
}

// promote makes a primary of it, whose client was told so many bytes: what is told first.
func (f *follower) promote(t *testing.T, client int) (*leader, []byte) {
	t.Helper()
	l := f.all()
	p, b, why := f.Promote(uint64(client))
	if p == nil || why != api.OK {
		t.Fatalf("Promote(%d): %v", client, why)
	}
	SameBytes(t, "what is told first", b, told(t, f.config, l)[client:])
	q := &leader{p, f.config, l, len(l)}
	q.is(t)
	return q, b
}

// shut holds that it is not promoted where a client says that it was told more than there is, and that nothing changes.
func (f *follower) shut(t *testing.T) {
	t.Helper()
	all := uint64(len(told(t, f.config, f.all())))
	for _, n := range []uint64{all + 1, all + 64, 1e9, 1 << 63, math.MaxUint64} {
		if p, b, why := f.Promote(n); p != nil || len(b) != 0 || why != api.ErrArg {
			t.Fatalf("Promote(%d) of %d: %v, %d bytes, %v", n, all, p, len(b), why)
		}
	}
	f.is(t)
}

// shapes plays a test with what clients send to books of several shapes.
func shapes(t *testing.T, seed, count, frames int, test func(t *testing.T, mix *Mixer, c api.Config, l [][]byte)) {
	t.Helper()
	for shape := range count {
		mix := Mixer(seed + shape)
		c := api.Config{Capacity: Pick(&mix, 1, 3, 9, 30), Meet: shape % 4}
		test(t, &mix, c, pieces(&mix, stream(t, &mix, c, frames)))
	}
}

// anyKind is one of those of engines that there are.
func anyKind(mix *Mixer) int { return Pick(mix, Kinds()...) }
