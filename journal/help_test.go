package journal_test

import (
	"bytes"
	"encoding/binary"
	"hash/crc32"
	"math"
	"slices"
	"testing"

	"bourse/api"
	"bourse/journal"
	"bourse/rules"
	. "bourse/sample"
	"bourse/snapshot"
)

// The tests lay out a journal's bytes by encoding/binary and hash/crc32, also those that no journal has, and hold what is found against a model that makes a list book anew for each command and keeps how all stood behind each batch.

// small is the config of the chapter's examples.
func small() api.Config { return api.Config{Capacity: 4} }

// laid is the bytes of a frame of a kind, whatever its words say.
func laid(kind byte, words ...uint64) []byte {
	b := []byte{0x42, 0x46, kind, 0}
	for i := range 7 {
		var word uint64
		if i < len(words) {
			word = words[i]
		}
		b = binary.LittleEndian.AppendUint64(b, word)
	}
	return binary.LittleEndian.AppendUint32(b, crc32.ChecksumIEEE(b))
}

// header is the frame of a head.
func header(c api.Config, kind int, follows uint64) []byte {
	return laid(96, 1, uint64(c.Capacity), uint64(c.Meet), uint64(kind), follows)
}

// encoded is a book's bytes.
func encoded(t *testing.T, x api.Book) []byte {
	t.Helper()
	b, why := snapshot.Encode(x)
	Same(t, "Encode", why, api.OK)
	return b
}

// pictured is a picture's frame, and the bytes behind it with their zeros.
func pictured(t *testing.T, x api.Book, count uint64) []byte {
	t.Helper()
	b := encoded(t, x)
	all := append(laid(97, uint64(len(b)), count, uint64(crc32.ChecksumIEEE(b))), b...)
	for len(all)%64 != 0 {
		all = append(all, 0)
	}
	return all
}

// begins is the bytes of a journal that begins with a picture.
func begins(t *testing.T, x api.Book, kind int, count uint64) []byte {
	t.Helper()
	return append(header(x.Config, kind, 1), pictured(t, x, count)...)
}

// to is the input that is a command.
func to(c api.Command) api.Input { return api.Input{Kind: api.ToBook, Command: c} }

// inputs is commands as such.
func inputs(l ...api.Command) []api.Input {
	var all []api.Input
	for _, c := range l {
		all = append(all, to(c))
	}
	return all
}

// swap is the input that names an engine.
func swap(kind int) api.Input { return api.Input{Kind: api.ToEngine, Engine: kind} }

// said is an input's frame, by the table of chapter 4.
func said(i api.Input) []byte {
	c := i.Command
	switch {
	case i.Kind == api.ToEngine:
		return laid(4, uint64(i.Engine))
	case c.Kind == api.New:
		return laid(1, c.ID, 0, uint64(c.Member)+uint64(c.Side)<<32+uint64(c.Type)<<40, uint64(c.Price), c.Qty, c.Peak)
	case c.Kind == api.Cancel:
		return laid(2, 0, c.Target)
	}
	return laid(3, c.ID, c.Target, 0, uint64(c.Price), c.Qty, c.Peak)
}

// saidAll is the frames of inputs, one behind the other.
func saidAll(l []api.Input) []byte {
	var b []byte
	for _, i := range l {
		b = append(b, said(i)...)
	}
	return b
}

// batch is frames, and a seal that says how many they are, how many there ever were, and the book's Seq.
func batch(frames []byte, count, seq uint64) []byte {
	return append(bytes.Clone(frames), laid(98, uint64(len(frames)/64), count, uint64(crc32.ChecksumIEEE(frames)), seq)...)
}

// state is how a journal stands: how many bytes it has, and what can be asked of it.
type state struct {
	size   int
	book   api.Book
	engine int
	count  uint64
	inputs []api.Input
}

// model is what a journal must be: its bytes, and how it stood behind the head (and the picture), and behind each batch.
type model struct {
	b      []byte
	states []state
}

// now is how it stands.
func (m *model) now() state { return m.states[len(m.states)-1] }

// empty is the model of a new journal.
func empty(c api.Config, kind int) *model {
	return &model{header(c, kind, 0), []state{{size: 64, book: api.Book{Config: c}, engine: kind}}}
}

// shown is the model of a journal that begins with a picture.
func shown(t *testing.T, x api.Book, kind int, count uint64) *model {
	t.Helper()
	b := begins(t, x, kind, count)
	return &model{b, []state{{size: len(b), book: x, engine: kind, count: count}}}
}

// compacted is the model of the journal behind a Compact.
func (m *model) compacted(t *testing.T) *model {
	t.Helper()
	s := m.now()
	return shown(t, s.book, s.engine, s.count)
}

// done does an input on a book by a list book: what is told, and how it stands then.
func (s state) done(t *testing.T, i api.Input) ([]api.Event, state) {
	t.Helper()
	s.count++
	s.inputs = append(slices.Clone(s.inputs), i)
	if i.Kind == api.ToEngine {
		s.engine = i.Engine
		return nil, s
	}
	b, why := rules.New(s.book.Config)
	Same(t, "New", why, api.OK)
	Same(t, "Load", b.Load(s.book), api.OK)
	told := b.Do(i.Command)
	s.book = b.Book()
	return told, s
}

// do does a batch: what must be told.
func (m *model) do(t *testing.T, l []api.Input) []api.Event {
	t.Helper()
	if len(l) == 0 {
		return nil
	}
	s := m.now()
	var told, more []api.Event
	for _, i := range l {
		more, s = s.done(t, i)
		told = append(told, more...)
	}
	m.b = append(m.b, batch(saidAll(l), s.count, s.book.Seq)...)
	s.size = len(m.b)
	m.states = append(m.states, s)
	return told
}

// behind is how it stood behind the last batch that so many bytes hold whole.
func (m *model) behind(size int) state {
	i := len(m.states) - 1
	for m.states[i].size > size {
		i--
	}
	return m.states[i]
}

// is ends a test where a journal stands otherwise, or has other bytes.
func is(t *testing.T, j *journal.Journal, want state, b []byte) {
	t.Helper()
	SameBytes(t, "Bytes", j.Bytes(), b)
	if x := j.Book(); !SameBook(x, want.book) {
		t.Fatalf("Book: got %+v, wanted %+v", x, want.book)
	}
	Same(t, "Engine", j.Engine(), want.engine)
	Same(t, "Count", j.Count(), want.count)
	SameList(t, "Inputs", j.Inputs(), want.inputs)
}

// isModel ends a test where a journal is not what its model says.
func isModel(t *testing.T, j *journal.Journal, m *model) {
	t.Helper()
	is(t, j, m.now(), m.b)
}

// made is a new journal, and its model.
func made(t *testing.T, c api.Config, kind int) (*journal.Journal, *model) {
	t.Helper()
	j, why := journal.New(c, kind)
	if j == nil || why != api.OK {
		t.Fatalf("New(%+v, %d): %v", c, kind, why)
	}
	m := empty(c, kind)
	isModel(t, j, m)
	return j, m
}

// found opens bytes of which so many as that state has must count.
func found(t *testing.T, b []byte, want state) *journal.Journal {
	t.Helper()
	j, n, why := journal.Open(b)
	if j == nil || n != want.size || why != api.OK {
		t.Fatalf("Open of %d bytes: %d count, %v; wanted %d", len(b), n, why, want.size)
	}
	is(t, j, want, b[:n])
	return j
}

// refuses opens bytes that are no journal.
func refuses(t *testing.T, what string, b []byte, want api.Errno) {
	t.Helper()
	if j, n, why := journal.Open(b); j != nil || n != 0 || why != want {
		t.Fatalf("Open of %s: %v, %d, %v, wanted %v", what, j, n, why, want)
	}
}

// does does a batch in a journal and its model.
func does(t *testing.T, j *journal.Journal, m *model, l ...api.Input) {
	t.Helper()
	want := m.do(t, l)
	tells(t, j, l, want)
	isModel(t, j, m)
}

// tells does a batch of which that must be told.
func tells(t *testing.T, j *journal.Journal, l []api.Input, want []api.Event) {
	t.Helper()
	told, why := j.Do(l)
	Same(t, "what is wrong with a batch", why, api.OK)
	SameList(t, "Do", told, want)
}

// fails does a batch that can't be done: nothing is told.
func fails(t *testing.T, j *journal.Journal, l []api.Input, want api.Errno) {
	t.Helper()
	if told, why := j.Do(l); len(told) != 0 || why != want {
		t.Fatalf("Do of %+v: %+v, %v, wanted %v", l, told, why, want)
	}
}

// canBeSaid tells whether a trimmed command has a frame.
func canBeSaid(c api.Command) bool {
	return c.Kind >= 1 && c.Kind <= 3 && c.Side|c.Type >= 0 && c.Side|c.Type < 256 && c.Price >= 0 && c.Price <= math.MaxUint32
}

// wild is an input that has a frame: many are such as a book may well take, some name an engine.
func wild(mix *Mixer, x api.Book, prices int) api.Input {
	if mix.Below(8) == 0 {
		return swap(1 + mix.Below(3))
	}
	c := Trimmed(Wild(mix, x.High, prices))
	for !canBeSaid(c) || c.ID > x.High+9 {
		c = Trimmed(Likely(mix, x.High, prices))
	}
	if l := slices.Concat(x.Buys, x.Sells); c.Target > 0 && len(l) > 0 && mix.Below(2) == 0 {
		c.Target = Pick(mix, l...).ID
	}
	return to(c)
}

// wilds is a batch of at most so many inputs; there may be none.
func wilds(mix *Mixer, x api.Book, most int) []api.Input {
	var l []api.Input
	for range mix.Below(most + 1) {
		l = append(l, wild(mix, x, 6))
		x.High++
	}
	return l
}

// shapes plays a test with journals of several shapes, each of so many batches: of a book of whatever config, from an engine and a picture or none on.
func shapes(t *testing.T, seed, batches, most int, test func(t *testing.T, mix *Mixer, m *model)) {
	t.Helper()
	for shape := range 12 {
		mix := Mixer(seed + shape)
		m := empty(api.Config{Capacity: Pick(&mix, 1, 3, 9, 30), Meet: shape % 4}, 1+shape%3)
		for n := range batches {
			// Every second one begins with a picture.
			if shape%2 == 1 && n == batches/3 {
				m = m.compacted(t)
			}
			m.do(t, wilds(&mix, m.now().book, most))
		}
		test(t, &mix, m)
	}
}

// replayed is the journal whose bytes a model has.
func replayed(t *testing.T, m *model) *journal.Journal {
	t.Helper()
	return found(t, m.b, m.now())
}

// sum is the check sum of bytes.
func sum(b []byte) uint32 { return crc32.ChecksumIEEE(b) }

// told does a batch: what the journal tells.
func told(t *testing.T, j *journal.Journal, l []api.Input) []api.Event {
	t.Helper()
	events, why := j.Do(l)
	Same(t, "what is wrong with a batch", why, api.OK)
	return events
}
